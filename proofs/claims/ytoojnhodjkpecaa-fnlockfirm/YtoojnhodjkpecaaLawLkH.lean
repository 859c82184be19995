/- The law FnLockFirm answers true at every code. -/
import Derived.Test.YtoojnhodjkpecaaLwK
import Derived.Test.YtoojnhodjkpecaaDrL6
namespace Go.Proofs.Ytoojnhodjkpecaa
open Go.RowKit

set_option maxRecDepth 100000 in
set_option maxHeartbeats 1000000 in
theorem lawLockFirmD_any (v u : Value) (n m : Nat) (w : World) (hv : BytesAt w v n) (hu : BytesAt w u m) :
    Calls Try.prog 6 #[v, u] w fun e w' => e = .returned (.bool true) ∧ Below w.heap.size w w' := by
  have HV := hide hv
  have HU := hide hu
  obtain ⟨a, cap, rfl, h1, h2, h3⟩ := hv
  obtain ⟨a', cap', rfl, h1', h2', h3'⟩ := hu
  unfold maxLen at h2 h2'
  clear h3 h3'
  by_cases hn : 1048576 < (n : Int)
  · go_enter Try.func6, Try.ntmps6
    go_wp2_with fail
    go_ret
    exact ⟨rfl, Below.refl _ _⟩
  by_cases hm : 1048576 < (m : Int)
  · go_enter Try.func6, Try.ntmps6
    go_wp2_with fail
    go_ret
    exact ⟨rfl, Below.refl _ _⟩
  go_enter Try.func6, Try.ntmps6
  go_wp2_with fail
  refine (drawLockFirm_any _ n w (unhide HV)).mono ?_; rintro e w1 ⟨l, la, lb, s, t, rfl, hk1, hln, hlm, -, -, b1⟩
  clear HV h1 h2
  obtain ⟨a0, c0, rfl, -⟩ := hk1.held.shape
  obtain ⟨a1, c1, rfl, -⟩ := hk1.waits.shape
  obtain ⟨slot, H, W⟩ := l
  simp only [lkV] at *
  have HK := hide hk1
  have HB := hide b1
  clear hk1 b1
  go_wp2_with fail
  obtain ⟨wA, hwA⟩ : ∃ z, z = (w1.alloc (.cells #[.int .i64 slot, .slice a0 H.length c0, .slice a1 W.length c1] 25)) := ⟨_, rfl⟩
  have hbn : Below w1.heap.size w1 wA := by rw [hwA]; exact (Below.refl _ _).alloc (Nat.le_refl _) _
  have HL : Hid (Bx wA (w1.heap.size) 25 #[.int .i64 slot, .slice a0 H.length c0, .slice a1 W.length c1]) := by rw [hwA]; exact Bx.made _ _ _
  rw [← hwA]
  clear hwA
  replace HK := hide ((unhide HK).kept hbn)
  replace HB := hide ((unhide HB).trans (hbn.mono (unhide HB).size))
  clear hbn
  refine (drawLockAsk_any _ m wA (BytesAt.keptE (unhide HU) (unhide HB))).mono ?_; rintro e w2 ⟨l2, lc, ld, x, rfl, hk2, -, -, -, h2⟩
  clear HU h1' h2'
  obtain ⟨u0, v0, rfl, -⟩ := hk2.held.shape
  obtain ⟨u1, v1, rfl, -⟩ := hk2.waits.shape
  obtain ⟨slot2, H2, W2⟩ := l2
  obtain ⟨xs, xt, xh, xf⟩ := x
  simp only [lkV, hdV] at *
  clear hk2
  replace HK := hide ((unhide HK).kept h2)
  replace HL := hide ((unhide HL).kept h2)
  replace HB := hide ((unhide HB).trans (h2.mono (unhide HB).size))
  clear h2
  have HCS := hide (fun ww hk => firmS_law (⟨slot, H, W⟩ : Lk) (.slice a0 H.length c0) (.slice a1 W.length c1) s t ww hk hln hlm)
  have HCI := hide (fun ww hk => firmI_law (⟨slot, H, W⟩ : Lk) (.slice a0 H.length c0) (.slice a1 W.length c1) s t ww hk hln hlm)
  have hle := firm_40 (⟨slot, H, W⟩ : Lk) s t
  have HCA := hide (fun ww a b hk => askI_law (firmL (⟨slot, H, W⟩ : Lk) s t) a b (⟨xs, xt, xh, xf⟩ : Hd) ww hk (by omega) (by omega))
  have hly := ask_40 (firmL (⟨slot, H, W⟩ : Lk) s t) (⟨xs, xt, xh, xf⟩ : Hd)
  have hT : (askT (firmL (⟨slot, H, W⟩ : Lk) s t) (⟨xs, xt, xh, xf⟩ : Hd)).length ≤ 1048576 := (ask_le (firmL (⟨slot, H, W⟩ : Lk) s t) (⟨xs, xt, xh, xf⟩ : Hd)).2.2
  have HM1 : Hid ((firmC (⟨slot, H, W⟩ : Lk) s t) = true → ∀ j, j < (askT (firmL (⟨slot, H, W⟩ : Lk) s t) (⟨xs, xt, xh, xf⟩ : Hd)).length → ((askT (firmL (⟨slot, H, W⟩ : Lk) s t) (⟨xs, xt, xh, xf⟩ : Hd)).getD j Hd.z).stamp ≠ s) := fun h j hj => by
    obtain ⟨ok, y, hy, e1, e2, e3⟩ := firm_ok h
    have := (firm_kept (h := (⟨xs, xt, xh, xf⟩ : Hd)) ok hy e3).1 _ (getD_in hj)
    rwa [e1] at this
  have HM2 : Hid ((firmC (⟨slot, H, W⟩ : Lk) s t) = true → ∃ j, j < (askL (firmL (⟨slot, H, W⟩ : Lk) s t) (⟨xs, xt, xh, xf⟩ : Hd)).held.length ∧ ((askL (firmL (⟨slot, H, W⟩ : Lk) s t) (⟨xs, xt, xh, xf⟩ : Hd)).held.getD j Hd.z).stamp = s ∧ ((askL (firmL (⟨slot, H, W⟩ : Lk) s t) (⟨xs, xt, xh, xf⟩ : Hd)).held.getD j Hd.z).try_ = t ∧ ((askL (firmL (⟨slot, H, W⟩ : Lk) s t) (⟨xs, xt, xh, xf⟩ : Hd)).held.getD j Hd.z).firm = true) := fun h => by
    obtain ⟨ok, y, hy, e1, e2, e3⟩ := firm_ok h
    obtain ⟨j, hj, e⟩ := List.getElem_of_mem (firm_kept (h := (⟨xs, xt, xh, xf⟩ : Hd)) ok hy e3).2
    refine ⟨j, hj, ?_⟩
    rw [show (askL (firmL (⟨slot, H, W⟩ : Lk) s t) (⟨xs, xt, xh, xf⟩ : Hd)).held.getD j Hd.z = y from by simp [List.getD, hj, e]]
    exact ⟨e1, e2, e3⟩
  generalize (askT (firmL (⟨slot, H, W⟩ : Lk) s t) (⟨xs, xt, xh, xf⟩ : Hd)) = T at *
  generalize (askL (firmL (⟨slot, H, W⟩ : Lk) s t) (⟨xs, xt, xh, xf⟩ : Hd)) = Y at *
  generalize askC (firmL (⟨slot, H, W⟩ : Lk) s t) (⟨xs, xt, xh, xf⟩ : Hd) = YC at *
  generalize (firmL (⟨slot, H, W⟩ : Lk) s t) = X at *
  generalize (firmC (⟨slot, H, W⟩ : Lk) s t) = C at *
  obtain ⟨xslot, XH, XW⟩ := X
  obtain ⟨yslot, YH, YW⟩ := Y
  simp only [lkV, hdV] at *
  obtain ⟨hXH, hXW⟩ := hle
  obtain ⟨hYH, hYW⟩ := hly
  have hcc : (C != C) = false := by simp
  have hce : (C == C) = true := by simp
  have lA := (unhide HL).lt
  obtain ⟨hl0, hl1, hl2⟩ := (unhide HL).three
  have hlt := (unhide HL).lt
  go_wp2_with fail
  clear hl0 hl1 hl2 hlt
  obtain ⟨wB, hwB⟩ : ∃ z, z = ((w2.alloc (.cells #[.int .i64 slot2, .slice u0 H2.length v0, .slice u1 W2.length v1] 25)).alloc (.cells #[.int .i64 xs, .int .i64 xt, .bool xh, .bool xf] 27)) := ⟨_, rfl⟩
  have hbn : Below w2.heap.size w2 wB := by rw [hwB]; exact ((Below.refl _ _).alloc (Nat.le_refl _) _).alloc (by simp; try omega) _
  have HH : Hid (Bx wB (w2.heap.size + 1) 27 #[.int .i64 xs, .int .i64 xt, .bool xh, .bool xf]) := by rw [hwB]; exact ⟨heap_alloc2_new w2 (.cells #[.int .i64 slot2, .slice u0 H2.length v0, .slice u1 W2.length v1] 25) (.cells #[.int .i64 xs, .int .i64 xt, .bool xh, .bool xf] 27)⟩
  rw [← hwB]
  clear hwB
  replace HK := hide ((unhide HK).kept hbn)
  replace HL := hide ((unhide HL).kept hbn)
  replace HB := hide ((unhide HB).trans (hbn.mono (unhide HB).size))
  clear hbn
  refine (unhide HCS _ (unhide HK)).mono ?_; rintro e w3 ⟨sa, sb, sc, sd, rfl, hx2, h3⟩
  replace HK := hide ((unhide HK).kept h3)
  replace HL := hide ((unhide HL).kept h3)
  replace HH := hide ((unhide HH).kept h3)
  replace HB := hide ((unhide HB).trans (h3.mono (unhide HB).size))
  clear h3
  have HSX := hide hx2
  clear hx2 HCS
  obtain ⟨hl0, hl1, hl2⟩ := (unhide HL).three
  have hlt := (unhide HL).lt
  go_wp2_with fail
  clear hl0 hl1 hl2 hlt
  obtain ⟨wC, hwC⟩ : ∃ z, z = (w3.alloc (.cells #[.int .i64 xslot, .slice sa XH.length sb, .slice sc XW.length sd] 25)) := ⟨_, rfl⟩
  have hbn : Below w3.heap.size w3 wC := by rw [hwC]; exact (Below.refl _ _).alloc (Nat.le_refl _) _
  have HS : Hid (Bx wC (w3.heap.size) 25 #[.int .i64 xslot, .slice sa XH.length sb, .slice sc XW.length sd]) := by rw [hwC]; exact Bx.made _ _ _
  rw [← hwC]
  clear hwC
  replace HK := hide ((unhide HK).kept hbn)
  replace HL := hide ((unhide HL).kept hbn)
  replace HH := hide ((unhide HH).kept hbn)
  replace HSX := hide ((unhide HSX).kept hbn)
  replace HB := hide ((unhide HB).trans (hbn.mono (unhide HB).size))
  clear hbn
  refine (unhide HCI _ (unhide HK)).mono ?_; rintro e w4 ⟨ta, tb, tc, td, rfl, hx4, h4⟩
  replace HK := hide ((unhide HK).kept h4)
  replace HL := hide ((unhide HL).kept h4)
  replace HH := hide ((unhide HH).kept h4)
  replace HSX := hide ((unhide HSX).kept h4)
  replace HS := hide ((unhide HS).kept h4)
  replace HB := hide ((unhide HB).trans (h4.mono (unhide HB).size))
  clear h4
  have HTX := hide hx4
  clear hx4 HCI
  obtain ⟨hs0, hs1, hs2⟩ := (unhide HS).three
  have hst := (unhide HS).lt
  go_wp2_with fail
  clear hs0 hs1 hs2 hst
  obtain ⟨wD, hwD⟩ : ∃ z, z = (w4.alloc (.cells #[.int .i64 xslot, .slice ta XH.length tb, .slice tc XW.length td] 25)) := ⟨_, rfl⟩
  have hbn : Below w4.heap.size w4 wD := by rw [hwD]; exact (Below.refl _ _).alloc (Nat.le_refl _) _
  have HT_ : Hid (Bx wD (w4.heap.size) 25 #[.int .i64 xslot, .slice ta XH.length tb, .slice tc XW.length td]) := by rw [hwD]; exact Bx.made _ _ _
  rw [← hwD]
  clear hwD
  replace HK := hide ((unhide HK).kept hbn)
  replace HL := hide ((unhide HL).kept hbn)
  replace HH := hide ((unhide HH).kept hbn)
  replace HSX := hide ((unhide HSX).kept hbn)
  replace HS := hide ((unhide HS).kept hbn)
  replace HTX := hide ((unhide HTX).kept hbn)
  replace HB := hide ((unhide HB).trans (hbn.mono (unhide HB).size))
  clear hbn
  refine (loLock_same ⟨xslot, XH, XW⟩ _ _ _ _ _ (unhide HTX) (unhide HSX)).mono ?_; rintro e w5 ⟨rfl, h5⟩
  replace HK := hide ((unhide HK).kept h5)
  replace HL := hide ((unhide HL).kept h5)
  replace HH := hide ((unhide HH).kept h5)
  replace HSX := hide ((unhide HSX).kept h5)
  replace HS := hide ((unhide HS).kept h5)
  replace HTX := hide ((unhide HTX).kept h5)
  replace HT_ := hide ((unhide HT_).kept h5)
  replace HB := hide ((unhide HB).trans (h5.mono (unhide HB).size))
  clear h5
  cases C
  ·
    obtain ⟨ht_0, ht_1, ht_2⟩ := (unhide HT_).three
    have ht_t := (unhide HT_).lt
    obtain ⟨hs0, hs1, hs2⟩ := (unhide HS).three
    have hst := (unhide HS).lt
    go_wp2_with fail
    clear ht_0 ht_1 ht_2 ht_t hs0 hs1 hs2 hst
    refine (loLock_same ⟨xslot, XH, XW⟩ _ _ _ _ _ (unhide HTX) (unhide HSX)).mono ?_; rintro e w6 ⟨rfl, h5⟩
    replace HK := hide ((unhide HK).kept h5)
    replace HL := hide ((unhide HL).kept h5)
    replace HH := hide ((unhide HH).kept h5)
    replace HSX := hide ((unhide HSX).kept h5)
    replace HS := hide ((unhide HS).kept h5)
    replace HTX := hide ((unhide HTX).kept h5)
    replace HT_ := hide ((unhide HT_).kept h5)
    replace HB := hide ((unhide HB).trans (h5.mono (unhide HB).size))
    clear h5
    go_wp2_with fail
    go_ret
    exact ⟨rfl, unhide HB⟩
  ·
    obtain ⟨ht_0, ht_1, ht_2⟩ := (unhide HT_).three
    have ht_t := (unhide HT_).lt
    obtain ⟨hh0, hh1, hh2, hh3⟩ := (unhide HH).four
    have hht := (unhide HH).lt
    go_wp2_with fail
    clear ht_0 ht_1 ht_2 ht_t hh0 hh1 hh2 hh3 hht
    refine (unhide HCA _ _ _ (unhide HTX)).mono ?_; rintro e w7 ⟨ya, yb, yc, yd, yr, yt, rfl, hx7, ht7, h7⟩
    replace HK := hide ((unhide HK).kept h7)
    replace HL := hide ((unhide HL).kept h7)
    replace HH := hide ((unhide HH).kept h7)
    replace HSX := hide ((unhide HSX).kept h7)
    replace HS := hide ((unhide HS).kept h7)
    replace HTX := hide ((unhide HTX).kept h7)
    replace HT_ := hide ((unhide HT_).kept h7)
    replace HB := hide ((unhide HB).trans (h7.mono (unhide HB).size))
    clear h7
    have HYX := hide hx7
    have HYT := hide ht7
    clear hx7 ht7 HCA
    go_wp2_with fail
    obtain ⟨wE, hwE⟩ : ∃ z, z = (w7.alloc (.cells #[.int .i64 yslot, .slice ya YH.length yb, .slice yc YW.length yd] 25)) := ⟨_, rfl⟩
    have hbn : Below w7.heap.size w7 wE := by rw [hwE]; exact (Below.refl _ _).alloc (Nat.le_refl _) _
    have HY : Hid (Bx wE (w7.heap.size) 25 #[.int .i64 yslot, .slice ya YH.length yb, .slice yc YW.length yd]) := by rw [hwE]; exact Bx.made _ _ _
    rw [← hwE]
    clear hwE
    replace HK := hide ((unhide HK).kept hbn)
    replace HL := hide ((unhide HL).kept hbn)
    replace HH := hide ((unhide HH).kept hbn)
    replace HSX := hide ((unhide HSX).kept hbn)
    replace HS := hide ((unhide HS).kept hbn)
    replace HTX := hide ((unhide HTX).kept hbn)
    replace HT_ := hide ((unhide HT_).kept hbn)
    replace HYX := hide ((unhide HYX).kept hbn)
    replace HYT := hide ((unhide HYT).kept hbn)
    replace HB := hide ((unhide HB).trans (hbn.mono (unhide HB).size))
    clear hbn
    have HN1 := hide (unhide HM1 (by first | rfl | trivial))
    have HN2 := hide (unhide HM2 (by first | rfl | trivial))
    clear HM1 HM2 HSX HTX HK HS HT_ HH HL
    generalize hN : T.length = N at *
    have HN := hide hN
    clear hN
    generalize hM : YH.length = M at *
    have HM := hide hM
    clear hM
    go_loopw [17] (fun i wr => ∃ k : Nat, k ≤ N ∧ i = .int .i64 k ∧ Below wE.heap.size wE wr) (fun i _ => N - (intOf i).toNat)
    case atStart => exact ⟨0, Nat.zero_le _, rfl, Below.refl _ _⟩
    case round =>
      obtain ⟨k, hk, rfl, hb⟩ := hrel
      have HBR := hide hb
      clear hb
      by_cases hlt : k < N
      ·
        obtain ⟨bt, ot, rfl⟩ := (unhide HYT).some_of (by rw [unhide HN]; omega)
        obtain ⟨d0, d1, d2, d3⟩ := hd_cells ((unhide HYT).kept (unhide HBR)) (i := k) (by rw [unhide HN]; exact hlt)
        have hne := unhide HN1 k hlt
        generalize T.getD k Hd.z = x at *
        have hneb : (x.stamp == s) = false := by simpa using hne
        clear hne
        have ia : (k : Int) < (N : Int) := by omega
        have ib : (0 : Int) ≤ (k : Int) := by omega
        go_wp2_with fail
        go_roundw
        case rel => exact ⟨k + 1, hlt, by go_num, unhide HBR⟩
        case measure => simp [intOf]; omega
      ·
        rename World => wo
        go_wp2_with fail
        go_loopw [18] (fun i wr => ∃ q : Nat, q ≤ M ∧ i = .int .i64 q ∧ Below wE.heap.size wE wr ∧ ∀ j, j < q → ¬ ((YH.getD j Hd.z).stamp = s ∧ (YH.getD j Hd.z).try_ = t ∧ (YH.getD j Hd.z).firm = true)) (fun i _ => M - (intOf i).toNat)
        case atStart => exact ⟨0, Nat.zero_le _, rfl, unhide HBR, fun j hj => by omega⟩
        case round =>
          obtain ⟨q, hq, rfl, hb2, hall⟩ := hrel
          obtain ⟨t0, t1, t2⟩ := ((unhide HY).kept hb2).three
          have HB2 := hide hb2
          have HALL := hide hall
          clear hb2 hall
          by_cases hlt2 : q < M
          ·
            obtain ⟨bx, ox, rfl⟩ := ((unhide HYX).held).some_of (by rw [unhide HM]; omega)
            obtain ⟨f0, f1, f2, f3⟩ := hd_cells (((unhide HYX).held).kept (unhide HB2)) (i := q) (by rw [unhide HM]; exact hlt2)
            generalize hy : YH.getD q Hd.z = y at *
            have HYQ := hide hy
            clear hy
            have iqa : (q : Int) < (M : Int) := by omega
            have iqb : (0 : Int) ≤ (q : Int) := by omega
            by_cases e1 : y.stamp = s
            case neg =>
              have b1 : (y.stamp == s) = false := by simpa using e1
              have HE := hide e1
              clear e1
              go_wp2_with fail
              go_roundw
              case rel =>
                refine ⟨q + 1, hlt2, by go_num, unhide HB2, fun j hj => ?_⟩
                by_cases hjq : j = q
                · rw [hjq, unhide HYQ]; exact fun h => unhide HE h.1
                · exact unhide HALL j (by omega)
              case measure => simp [intOf]; omega
            have b1 : (y.stamp == s) = true := by simpa using e1
            clear e1
            by_cases e2 : y.try_ = t
            case neg =>
              have b2 : (y.try_ == t) = false := by simpa using e2
              have HE := hide e2
              clear e2
              go_wp2_with fail
              go_roundw
              case rel =>
                refine ⟨q + 1, hlt2, by go_num, unhide HB2, fun j hj => ?_⟩
                by_cases hjq : j = q
                · rw [hjq, unhide HYQ]; exact fun h => unhide HE h.2.1
                · exact unhide HALL j (by omega)
              case measure => simp [intOf]; omega
            have b2 : (y.try_ == t) = true := by simpa using e2
            clear e2
            cases e3 : y.firm
            · rw [e3] at f3
              have HE := hide e3
              clear e3
              go_wp2_with fail
              go_roundw
              case rel =>
                refine ⟨q + 1, hlt2, by go_num, unhide HB2, fun j hj => ?_⟩
                by_cases hjq : j = q
                · rw [hjq, unhide HYQ]; exact fun h => by rw [unhide HE] at h; cases h.2.2
                · exact unhide HALL j (by omega)
              case measure => simp [intOf]; omega
            · rw [e3] at f3
              clear e3
              go_wp2_with fail
              go_ret
              exact ⟨rfl, (unhide HB).trans ((unhide HB2).mono (unhide HB).size)⟩
          ·
            exfalso
            obtain ⟨j, hj, h⟩ := unhide HN2
            exact unhide HALL j (by omega) h

end Go.Proofs.Ytoojnhodjkpecaa
