/- The law FnLockAsk answers true at every code. -/
import Derived.Test.YtoojnhodjkpecaaLwK
import Derived.Test.YtoojnhodjkpecaaDrL5
namespace Go.Proofs.Ytoojnhodjkpecaa
open Go.RowKit

set_option maxRecDepth 100000 in
set_option maxHeartbeats 1000000 in
theorem lawLockAsk_any (v : Value) (n : Nat) (w : World) (hv : BytesAt w v n) :
    Calls Try.prog 3 #[v] w fun e w' => e = .returned (.bool true) ∧ Below w.heap.size w w' := by
  have HV := hide hv
  obtain ⟨a, cap, rfl, h1, h2, h3⟩ := hv
  unfold maxLen at h2
  clear h3
  by_cases hn : 1048576 < (n : Int)
  · go_enter Try.func3, Try.ntmps3
    go_wp2_with fail
    go_ret
    exact ⟨rfl, Below.refl _ _⟩
  go_enter Try.func3, Try.ntmps3
  go_wp2_with fail
  refine (drawLockAsk_any _ n w (unhide HV)).mono ?_; rintro e w1 ⟨l, a, b, x, rfl, hk1, hln, hlm, hxt, b1⟩
  clear HV h1 h2
  obtain ⟨a0, c0, rfl, -⟩ := hk1.held.shape
  obtain ⟨a1, c1, rfl, -⟩ := hk1.waits.shape
  obtain ⟨slot, H, W⟩ := l
  obtain ⟨xs, xt, xh, xf⟩ := x
  simp only [lkV, hdV] at *
  have HK := hide hk1
  have HB := hide b1
  have HXT := hide hxt
  clear hk1 b1 hxt
  have HCS := hide (fun ww hk => askS_law (⟨slot, H, W⟩ : Lk) (.slice a0 H.length c0) (.slice a1 W.length c1) (⟨xs, xt, xh, xf⟩ : Hd) ww hk hln hlm)
  have HCI := hide (fun ww hk => askI_law (⟨slot, H, W⟩ : Lk) (.slice a0 H.length c0) (.slice a1 W.length c1) (⟨xs, xt, xh, xf⟩ : Hd) ww hk hln hlm)
  have HOS := hide (fun ww hk => lockOkS_law (⟨slot, H, W⟩ : Lk) (.slice a0 H.length c0) (.slice a1 W.length c1) ww hk hln hlm)
  have HOI := hide (fun ww hk => lockOkI_law (⟨slot, H, W⟩ : Lk) (.slice a0 H.length c0) (.slice a1 W.length c1) ww hk hln hlm)
  have hle := ask_40 (⟨slot, H, W⟩ : Lk) (⟨xs, xt, xh, xf⟩ : Hd)
  have hT : (askT (⟨slot, H, W⟩ : Lk) (⟨xs, xt, xh, xf⟩ : Hd)).length ≤ 1048576 := (ask_le (⟨slot, H, W⟩ : Lk) (⟨xs, xt, xh, xf⟩ : Hd)).2.2
  have HOX := hide (fun ww a b hk => lockOkI_law (askL (⟨slot, H, W⟩ : Lk) (⟨xs, xt, xh, xf⟩ : Hd)) a b ww hk (by omega) (by omega))
  have HM0 : Hid (lockOkB (⟨slot, H, W⟩ : Lk) = false → askC (⟨slot, H, W⟩ : Lk) (⟨xs, xt, xh, xf⟩ : Hd) = false ∧ askT (⟨slot, H, W⟩ : Lk) (⟨xs, xt, xh, xf⟩ : Hd) = []) := fun h => ⟨(ask_no h).2.1, (ask_no h).2.2⟩
  have HM1 : Hid (lockOkB (⟨slot, H, W⟩ : Lk) = true → lockOkB (askL (⟨slot, H, W⟩ : Lk) (⟨xs, xt, xh, xf⟩ : Hd)) = true) := fun h => (ask_ok _ h).ok
  have HM2 : Hid (lockOkB (⟨slot, H, W⟩ : Lk) = true → ∀ i, i < (askT (⟨slot, H, W⟩ : Lk) (⟨xs, xt, xh, xf⟩ : Hd)).length → ((askT (⟨slot, H, W⟩ : Lk) (⟨xs, xt, xh, xf⟩ : Hd)).getD i Hd.z).firm = false ∧ xs < ((askT (⟨slot, H, W⟩ : Lk) (⟨xs, xt, xh, xf⟩ : Hd)).getD i Hd.z).stamp ∧ ∀ k, k < (askL (⟨slot, H, W⟩ : Lk) (⟨xs, xt, xh, xf⟩ : Hd)).held.length → ((askL (⟨slot, H, W⟩ : Lk) (⟨xs, xt, xh, xf⟩ : Hd)).held.getD k Hd.z).stamp ≠ ((askT (⟨slot, H, W⟩ : Lk) (⟨xs, xt, xh, xf⟩ : Hd)).getD i Hd.z).stamp) := fun h i hi => by
    obtain ⟨q1, q2, -, q4⟩ := ask_taken h (getD_in hi)
    exact ⟨q1, q2, fun k hk => q4 _ (getD_in hk)⟩
  have HM3 : Hid (lockOkB (⟨slot, H, W⟩ : Lk) = true → ∀ i k, i < (askL (⟨slot, H, W⟩ : Lk) (⟨xs, xt, xh, xf⟩ : Hd)).held.length → k < i → ((askL (⟨slot, H, W⟩ : Lk) (⟨xs, xt, xh, xf⟩ : Hd)).held.getD i Hd.z).share = true ∧ ((askL (⟨slot, H, W⟩ : Lk) (⟨xs, xt, xh, xf⟩ : Hd)).held.getD k Hd.z).share = true) := fun h i k hi hk => (ask_ok _ h).share hi (by omega) (by omega)
  generalize askL (⟨slot, H, W⟩ : Lk) (⟨xs, xt, xh, xf⟩ : Hd) = X at *
  generalize askC (⟨slot, H, W⟩ : Lk) (⟨xs, xt, xh, xf⟩ : Hd) = C at *
  generalize askT (⟨slot, H, W⟩ : Lk) (⟨xs, xt, xh, xf⟩ : Hd) = T at *
  generalize lockOkB (⟨slot, H, W⟩ : Lk) = OK at *
  obtain ⟨xslot, XH, XW⟩ := X
  simp only [lkV, hdV] at *
  obtain ⟨hXH, hXW⟩ := hle
  have hcc : (C != C) = false := by simp
  have hoo : (OK != OK) = false := by simp
  go_wp2_with fail
  obtain ⟨wA, hwA⟩ : ∃ z, z = ((w1.alloc (.cells #[.int .i64 slot, .slice a0 H.length c0, .slice a1 W.length c1] 25)).alloc (.cells #[.int .i64 xs, .int .i64 xt, .bool xh, .bool xf] 27)) := ⟨_, rfl⟩
  have hbn : Below w1.heap.size w1 wA := by rw [hwA]; exact ((Below.refl _ _).alloc (Nat.le_refl _) _).alloc (by simp; try omega) _
  have HL : Hid (Bx wA (w1.heap.size) 25 #[.int .i64 slot, .slice a0 H.length c0, .slice a1 W.length c1]) := by rw [hwA]; exact (Bx.made _ _ _).allocK
  have HH : Hid (Bx wA (w1.heap.size + 1) 27 #[.int .i64 xs, .int .i64 xt, .bool xh, .bool xf]) := by rw [hwA]; exact ⟨heap_alloc2_new w1 (.cells #[.int .i64 slot, .slice a0 H.length c0, .slice a1 W.length c1] 25) (.cells #[.int .i64 xs, .int .i64 xt, .bool xh, .bool xf] 27)⟩
  rw [← hwA]
  clear hwA
  replace HK := hide ((unhide HK).kept hbn)
  replace HB := hide ((unhide HB).trans (hbn.mono (unhide HB).size))
  clear hbn
  refine (unhide HCS _ (unhide HK)).mono ?_; rintro e w2 ⟨sa, sb, sc, sd, sr, st, rfl, hx2, ht2, h2⟩
  replace HK := hide ((unhide HK).kept h2)
  replace HL := hide ((unhide HL).kept h2)
  replace HH := hide ((unhide HH).kept h2)
  replace HB := hide ((unhide HB).trans (h2.mono (unhide HB).size))
  clear h2
  have HSX := hide hx2
  have HST := hide ht2
  clear hx2 ht2 HCS
  obtain ⟨hl0, hl1, hl2⟩ := (unhide HL).three
  have hlt := (unhide HL).lt
  obtain ⟨hh0, hh1, hh2, hh3⟩ := (unhide HH).four
  have hht := (unhide HH).lt
  go_wp2_with fail
  clear hl0 hl1 hl2 hlt hh0 hh1 hh2 hh3 hht
  obtain ⟨wB, hwB⟩ : ∃ z, z = (w2.alloc (.cells #[.int .i64 xslot, .slice sa XH.length sb, .slice sc XW.length sd] 25)) := ⟨_, rfl⟩
  have hbn : Below w2.heap.size w2 wB := by rw [hwB]; exact (Below.refl _ _).alloc (Nat.le_refl _) _
  have HS : Hid (Bx wB (w2.heap.size) 25 #[.int .i64 xslot, .slice sa XH.length sb, .slice sc XW.length sd]) := by rw [hwB]; exact Bx.made _ _ _
  rw [← hwB]
  clear hwB
  replace HK := hide ((unhide HK).kept hbn)
  replace HL := hide ((unhide HL).kept hbn)
  replace HH := hide ((unhide HH).kept hbn)
  replace HSX := hide ((unhide HSX).kept hbn)
  replace HST := hide ((unhide HST).kept hbn)
  replace HB := hide ((unhide HB).trans (hbn.mono (unhide HB).size))
  clear hbn
  refine (unhide HOS _ (unhide HK)).mono ?_; rintro e w3 ⟨rfl, h3⟩
  replace HK := hide ((unhide HK).kept h3)
  replace HL := hide ((unhide HL).kept h3)
  replace HH := hide ((unhide HH).kept h3)
  replace HSX := hide ((unhide HSX).kept h3)
  replace HST := hide ((unhide HST).kept h3)
  replace HS := hide ((unhide HS).kept h3)
  replace HB := hide ((unhide HB).trans (h3.mono (unhide HB).size))
  clear h3
  clear HOS
  obtain ⟨hl0, hl1, hl2⟩ := (unhide HL).three
  have hlt := (unhide HL).lt
  obtain ⟨hh0, hh1, hh2, hh3⟩ := (unhide HH).four
  have hht := (unhide HH).lt
  go_wp2_with fail
  clear hl0 hl1 hl2 hlt hh0 hh1 hh2 hh3 hht
  refine (unhide HCI _ (unhide HK)).mono ?_; rintro e w4 ⟨ta, tb, tc, td, tr, tt, rfl, hx4, ht4, h4⟩
  replace HK := hide ((unhide HK).kept h4)
  replace HL := hide ((unhide HL).kept h4)
  replace HH := hide ((unhide HH).kept h4)
  replace HSX := hide ((unhide HSX).kept h4)
  replace HST := hide ((unhide HST).kept h4)
  replace HS := hide ((unhide HS).kept h4)
  replace HB := hide ((unhide HB).trans (h4.mono (unhide HB).size))
  clear h4
  have HTX := hide hx4
  have HTT := hide ht4
  clear hx4 ht4 HCI
  obtain ⟨hl0, hl1, hl2⟩ := (unhide HL).three
  have hlt := (unhide HL).lt
  obtain ⟨hh0, hh1, hh2, hh3⟩ := (unhide HH).four
  have hht := (unhide HH).lt
  obtain ⟨hs0, hs1, hs2⟩ := (unhide HS).three
  have hst := (unhide HS).lt
  go_wp2_with fail
  clear hl0 hl1 hl2 hlt hh0 hh1 hh2 hh3 hht hs0 hs1 hs2 hst
  obtain ⟨wC, hwC⟩ : ∃ z, z = (w4.alloc (.cells #[.int .i64 xslot, .slice ta XH.length tb, .slice tc XW.length td] 25)) := ⟨_, rfl⟩
  have hbn : Below w4.heap.size w4 wC := by rw [hwC]; exact (Below.refl _ _).alloc (Nat.le_refl _) _
  have HT_ : Hid (Bx wC (w4.heap.size) 25 #[.int .i64 xslot, .slice ta XH.length tb, .slice tc XW.length td]) := by rw [hwC]; exact Bx.made _ _ _
  rw [← hwC]
  clear hwC
  replace HK := hide ((unhide HK).kept hbn)
  replace HL := hide ((unhide HL).kept hbn)
  replace HH := hide ((unhide HH).kept hbn)
  replace HSX := hide ((unhide HSX).kept hbn)
  replace HST := hide ((unhide HST).kept hbn)
  replace HS := hide ((unhide HS).kept hbn)
  replace HTX := hide ((unhide HTX).kept hbn)
  replace HTT := hide ((unhide HTT).kept hbn)
  replace HB := hide ((unhide HB).trans (hbn.mono (unhide HB).size))
  clear hbn
  refine (loLock_same ⟨xslot, XH, XW⟩ _ _ _ _ _ (unhide HTX) (unhide HSX)).mono ?_; rintro e w5 ⟨rfl, h5⟩
  replace HK := hide ((unhide HK).kept h5)
  replace HL := hide ((unhide HL).kept h5)
  replace HH := hide ((unhide HH).kept h5)
  replace HSX := hide ((unhide HSX).kept h5)
  replace HST := hide ((unhide HST).kept h5)
  replace HS := hide ((unhide HS).kept h5)
  replace HTX := hide ((unhide HTX).kept h5)
  replace HTT := hide ((unhide HTT).kept h5)
  replace HT_ := hide ((unhide HT_).kept h5)
  replace HB := hide ((unhide HB).trans (h5.mono (unhide HB).size))
  clear h5
  go_wp2_with fail
  refine (loHolds_same _ _ T _ (unhide HTT) (unhide HST)).mono ?_; rintro e w6 ⟨rfl, h6⟩
  replace HK := hide ((unhide HK).kept h6)
  replace HL := hide ((unhide HL).kept h6)
  replace HH := hide ((unhide HH).kept h6)
  replace HSX := hide ((unhide HSX).kept h6)
  replace HST := hide ((unhide HST).kept h6)
  replace HS := hide ((unhide HS).kept h6)
  replace HTX := hide ((unhide HTX).kept h6)
  replace HTT := hide ((unhide HTT).kept h6)
  replace HT_ := hide ((unhide HT_).kept h6)
  replace HB := hide ((unhide HB).trans (h6.mono (unhide HB).size))
  clear h6
  obtain ⟨hl0, hl1, hl2⟩ := (unhide HL).three
  have hlt := (unhide HL).lt
  obtain ⟨hh0, hh1, hh2, hh3⟩ := (unhide HH).four
  have hht := (unhide HH).lt
  go_wp2_with fail
  clear hl0 hl1 hl2 hlt hh0 hh1 hh2 hh3 hht
  refine (unhide HOI _ (unhide HK)).mono ?_; rintro e w7 ⟨rfl, h7⟩
  replace HK := hide ((unhide HK).kept h7)
  replace HL := hide ((unhide HL).kept h7)
  replace HH := hide ((unhide HH).kept h7)
  replace HSX := hide ((unhide HSX).kept h7)
  replace HST := hide ((unhide HST).kept h7)
  replace HS := hide ((unhide HS).kept h7)
  replace HTX := hide ((unhide HTX).kept h7)
  replace HTT := hide ((unhide HTT).kept h7)
  replace HT_ := hide ((unhide HT_).kept h7)
  replace HB := hide ((unhide HB).trans (h7.mono (unhide HB).size))
  clear h7
  clear HOI
  cases OK
  ·
    obtain ⟨rfl, rfl⟩ := unhide HM0 rfl
    go_wp2_with fail
    go_ret
    exact ⟨rfl, unhide HB⟩
  ·
    have hM1 := unhide HM1 rfl
    have HN2 := hide (unhide HM2 rfl)
    have HN3 := hide (unhide HM3 rfl)
    have HN1 := hide hM1
    clear HM0 HM1 HM2 HM3 hM1 HSX HST HS HK HL
    generalize hN : T.length = N at *
    have HN := hide hN
    clear hN
    generalize hM : XH.length = M at *
    have HM := hide hM
    clear hM
    go_wp2_with fail
    go_loopw [12] (fun i wr => ∃ k : Nat, k ≤ N ∧ i = .int .i64 k ∧ Below w7.heap.size w7 wr) (fun i _ => N - (intOf i).toNat)
    case atStart => exact ⟨0, Nat.zero_le _, rfl, Below.refl _ _⟩
    case round =>
      obtain ⟨k, hk, rfl, hb⟩ := hrel
      have HBR := hide hb
      clear hb
      by_cases hlt : k < N
      ·
        obtain ⟨bt, ot, rfl⟩ := (unhide HTT).some_of (by rw [unhide HN]; omega)
        obtain ⟨d0, d1, d2, d3⟩ := hd_cells ((unhide HTT).kept (unhide HBR)) (i := k) (by rw [unhide HN]; exact hlt)
        have HDX := hide (fun ww (hb : Below w7.heap.size w7 ww) => hd_cells ((unhide HTT).kept hb) (i := k) (by rw [unhide HN]; exact hlt))
        obtain ⟨m1, m2, m3⟩ := unhide HN2 k hlt
        have HM3 := hide m3
        clear m3
        generalize T.getD k Hd.z = x at *
        rw [m1] at d3
        have hdc : decide (x.stamp ≤ xs) = false := by simp; omega
        obtain ⟨hh0, hh1, hh2, hh3⟩ := ((unhide HH).kept (unhide HBR)).four
        clear m1 m2
        have ia : (k : Int) < (N : Int) := by omega
        have ib : (0 : Int) ≤ (k : Int) := by omega
        go_wp2_with fail
        go_quiet (fail)
        go_wp2_with fail
        rename World => wo
        clear d0 d1 d2 d3 hh0 hh1 hh2 hh3 hdc
        go_loopw [13] (fun i wr => ∃ q : Nat, q ≤ M ∧ i = .int .i64 q ∧ Below w7.heap.size w7 wr) (fun i _ => M - (intOf i).toNat)
        case atStart => exact ⟨0, Nat.zero_le _, rfl, below_drewN (unhide HBR) _⟩
        case round =>
          obtain ⟨q, hq, rfl, hb2⟩ := hrel
          obtain ⟨t0, t1, t2⟩ := ((unhide HT_).kept hb2).three
          have HB2 := hide hb2
          clear hb2
          by_cases hlt2 : q < M
          ·
            obtain ⟨bx, ox, rfl⟩ := ((unhide HTX).held).some_of (by rw [unhide HM]; omega)
            obtain ⟨f0, f1, f2, f3⟩ := hd_cells (((unhide HTX).held).kept (unhide HB2)) (i := q) (by rw [unhide HM]; exact hlt2)
            obtain ⟨d0, d1, d2, d3⟩ := unhide HDX _ (unhide HB2)
            have hne := unhide HM3 q hlt2
            generalize XH.getD q Hd.z = y at *
            have hneb : (y.stamp == x.stamp) = false := by simpa using hne
            clear hne
            have iqa : (q : Int) < (M : Int) := by omega
            have iqb : (0 : Int) ≤ (q : Int) := by omega
            go_wp2_with fail
            go_quiet (fail)
            go_wp2_with fail
            go_roundw
            case rel => exact ⟨q + 1, hlt2, by go_num, below_drewN (unhide HB2) _⟩
            case measure => simp [intOf]; omega
          ·
            go_wp2_with fail
            go_roundw
            case rel => exact ⟨k + 1, hlt, by go_num, unhide HB2⟩
            case measure => simp [intOf]; omega
      ·
        rename World => wo
        go_wp2_with fail
        go_loopw [14] (fun i wr => ∃ k2 : Nat, k2 ≤ M ∧ i = .int .i64 k2 ∧ Below w7.heap.size w7 wr) (fun i _ => M - (intOf i).toNat)
        case atStart => exact ⟨0, Nat.zero_le _, rfl, unhide HBR⟩
        case round =>
          obtain ⟨k2, hk2, rfl, hb2⟩ := hrel
          obtain ⟨t0, t1, t2⟩ := ((unhide HT_).kept hb2).three
          have HB2 := hide hb2
          clear hb2
          by_cases hlt2 : k2 < M
          ·
            go_wp2_with fail
            rename World => wp
            clear t0 t1 t2
            go_loopw [15] (fun i wr => ∃ q : Nat, q ≤ k2 ∧ i = .int .i64 q ∧ Below w7.heap.size w7 wr) (fun i _ => k2 - (intOf i).toNat)
            case atStart => exact ⟨0, Nat.zero_le _, rfl, unhide HB2⟩
            case round =>
              obtain ⟨q, hq, rfl, hb3⟩ := hrel
              obtain ⟨t0, t1, t2⟩ := ((unhide HT_).kept hb3).three
              have HB3 := hide hb3
              clear hb3
              by_cases hlt3 : q < k2
              ·
                obtain ⟨bx, ox, rfl⟩ := ((unhide HTX).held).some_of (by rw [unhide HM]; omega)
                obtain ⟨f0, f1, f2, f3⟩ := hd_cells (((unhide HTX).held).kept (unhide HB3)) (i := k2) (by rw [unhide HM]; exact hlt2)
                obtain ⟨g0, g1, g2, g3⟩ := hd_cells (((unhide HTX).held).kept (unhide HB3)) (i := q) (by rw [unhide HM]; exact (by omega))
                obtain ⟨s1, s2⟩ := unhide HN3 k2 q hlt2 hlt3
                rw [s1] at f2
                rw [s2] at g2
                clear s1 s2
                have hq2 : q < M := by omega
                have i3c : (q : Int) < (k2 : Int) := by omega
                have iqa : (q : Int) < (M : Int) := by omega
                have iqb : (0 : Int) ≤ (q : Int) := by omega
                have ika : (k2 : Int) < (M : Int) := by omega
                have ikb : (0 : Int) ≤ (k2 : Int) := by omega
                go_wp2_with fail
                go_roundw
                case rel => exact ⟨q + 1, hlt3, by go_num, unhide HB3⟩
                case measure => simp [intOf]; omega
              ·
                go_wp2_with fail
                go_roundw
                case rel => exact ⟨k2 + 1, hlt2, by go_num, unhide HB3⟩
                case measure => simp [intOf]; omega
          ·
            go_wp2_with fail
            refine (unhide HOX _ _ _ ((unhide HTX).kept (unhide HB2))).mono ?_; rintro e w9 ⟨rfl, h9⟩
            rw [unhide HN1]
            go_wp2_with fail
            go_ret
            have hbz := (unhide HB).trans ((unhide HB2).mono (unhide HB).size)
            exact ⟨rfl, hbz.trans (h9.mono hbz.size)⟩

end Go.Proofs.Ytoojnhodjkpecaa
