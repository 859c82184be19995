/- The law FnLockWait answers true at every code. -/
import Derived.Test.YtoojnhodjkpecaaLwK
import Derived.Test.YtoojnhodjkpecaaDrL5
namespace Go.Proofs.Ytoojnhodjkpecaa
open Go.RowKit

set_option maxRecDepth 100000 in
set_option maxHeartbeats 1000000 in
theorem lawLockWait_any (v : Value) (n : Nat) (w : World) (hv : BytesAt w v n) :
    Calls Try.prog 10 #[v] w fun e w' => e = .returned (.bool true) ∧ Below w.heap.size w w' := by
  have HV := hide hv
  obtain ⟨a, cap, rfl, h1, h2, h3⟩ := hv
  unfold maxLen at h2
  clear h3
  by_cases hn : 1048576 < (n : Int)
  · go_enter Try.func10, Try.ntmps10
    go_wp2_with fail
    go_ret
    exact ⟨rfl, Below.refl _ _⟩
  go_enter Try.func10, Try.ntmps10
  go_wp2_with fail
  refine (drawLockAsk_any _ n w (unhide HV)).mono ?_; rintro e w1 ⟨l, a, b, x, rfl, hk1, hln, hlm, hxt, b1⟩
  clear HV h1 h2
  obtain ⟨a0, c0, rfl, -⟩ := hk1.held.shape
  obtain ⟨a1, c1, rfl, -⟩ := hk1.waits.shape
  obtain ⟨slot, H, W⟩ := l
  obtain ⟨xs, xt, xh, xf⟩ := x
  simp only [lkV, hdV] at *
  have HK := hide hk1
  have HB := hide b1
  have HXT := hide hxt
  clear hk1 b1 hxt
  have HCS := hide (fun ww hk => askS_law (⟨slot, H, W⟩ : Lk) (.slice a0 H.length c0) (.slice a1 W.length c1) (⟨xs, xt, xh, xf⟩ : Hd) ww hk hln hlm)
  have HCI := hide (fun ww hk => askI_law (⟨slot, H, W⟩ : Lk) (.slice a0 H.length c0) (.slice a1 W.length c1) (⟨xs, xt, xh, xf⟩ : Hd) ww hk hln hlm)
  have HOS := hide (fun ww hk => lockOkS_law (⟨slot, H, W⟩ : Lk) (.slice a0 H.length c0) (.slice a1 W.length c1) ww hk hln hlm)
  have HOI := hide (fun ww hk => lockOkI_law (⟨slot, H, W⟩ : Lk) (.slice a0 H.length c0) (.slice a1 W.length c1) ww hk hln hlm)
  have hle := ask_40 (⟨slot, H, W⟩ : Lk) (⟨xs, xt, xh, xf⟩ : Hd)
  have hT : (askT (⟨slot, H, W⟩ : Lk) (⟨xs, xt, xh, xf⟩ : Hd)).length ≤ 1048576 := (ask_le (⟨slot, H, W⟩ : Lk) (⟨xs, xt, xh, xf⟩ : Hd)).2.2
  have HOX := hide (fun ww a b hk => lockOkI_law (askL (⟨slot, H, W⟩ : Lk) (⟨xs, xt, xh, xf⟩ : Hd)) a b ww hk (by omega) (by omega))
  have HFI := hide (fun ww a b hk => freeI_law (askL (⟨slot, H, W⟩ : Lk) (⟨xs, xt, xh, xf⟩ : Hd)) a b xs xt ww hk (by omega) (by omega))
  have HFS := hide (fun ww a b hk => freeS_law (askL (⟨slot, H, W⟩ : Lk) (⟨xs, xt, xh, xf⟩ : Hd)) a b xs xt ww hk (by omega) (by omega))
  have hly := free_40 (askL (⟨slot, H, W⟩ : Lk) (⟨xs, xt, xh, xf⟩ : Hd)) xs xt
  have HMX : Hid (lockOkB (⟨slot, H, W⟩ : Lk) = true → ∀ i k, i < (askL (⟨slot, H, W⟩ : Lk) (⟨xs, xt, xh, xf⟩ : Hd)).held.length → k < (askL (⟨slot, H, W⟩ : Lk) (⟨xs, xt, xh, xf⟩ : Hd)).waits.length → ((askL (⟨slot, H, W⟩ : Lk) (⟨xs, xt, xh, xf⟩ : Hd)).held.getD i Hd.z).stamp ≠ ((askL (⟨slot, H, W⟩ : Lk) (⟨xs, xt, xh, xf⟩ : Hd)).waits.getD k Hd.z).stamp ∧ ((askL (⟨slot, H, W⟩ : Lk) (⟨xs, xt, xh, xf⟩ : Hd)).waits.getD k Hd.z).firm = false) := fun h i k hi hk => ⟨(ask_ok _ h).apart _ (getD_in hi) _ (getD_in hk), (ask_ok _ h).soft _ (getD_in hk)⟩
  have HMY : Hid (lockOkB (⟨slot, H, W⟩ : Lk) = true → ∀ i k, i < (freeL (askL (⟨slot, H, W⟩ : Lk) (⟨xs, xt, xh, xf⟩ : Hd)) xs xt).held.length → k < (freeL (askL (⟨slot, H, W⟩ : Lk) (⟨xs, xt, xh, xf⟩ : Hd)) xs xt).waits.length → ((freeL (askL (⟨slot, H, W⟩ : Lk) (⟨xs, xt, xh, xf⟩ : Hd)) xs xt).held.getD i Hd.z).stamp ≠ ((freeL (askL (⟨slot, H, W⟩ : Lk) (⟨xs, xt, xh, xf⟩ : Hd)) xs xt).waits.getD k Hd.z).stamp ∧ ((freeL (askL (⟨slot, H, W⟩ : Lk) (⟨xs, xt, xh, xf⟩ : Hd)) xs xt).waits.getD k Hd.z).firm = false) := fun h i k hi hk => ⟨(free_ok _ _ (ask_ok _ h).ok).apart _ (getD_in hi) _ (getD_in hk), (free_ok _ _ (ask_ok _ h).ok).soft _ (getD_in hk)⟩
  generalize hYY : (freeL (askL (⟨slot, H, W⟩ : Lk) (⟨xs, xt, xh, xf⟩ : Hd)) xs xt) = Y at *
  generalize hGG : (freeG (askL (⟨slot, H, W⟩ : Lk) (⟨xs, xt, xh, xf⟩ : Hd)) xs xt) = G at *
  clear hYY hGG
  obtain ⟨yslot, YH, YW⟩ := Y
  generalize askL (⟨slot, H, W⟩ : Lk) (⟨xs, xt, xh, xf⟩ : Hd) = X at *
  generalize askC (⟨slot, H, W⟩ : Lk) (⟨xs, xt, xh, xf⟩ : Hd) = C at *
  generalize askT (⟨slot, H, W⟩ : Lk) (⟨xs, xt, xh, xf⟩ : Hd) = T at *
  generalize lockOkB (⟨slot, H, W⟩ : Lk) = OK at *
  obtain ⟨xslot, XH, XW⟩ := X
  simp only [lkV, hdV] at *
  obtain ⟨hXH, hXW⟩ := hle
  have hcc : (C != C) = false := by simp
  have hoo : (OK != OK) = false := by simp
  have hce : (C == C) = true := by simp
  obtain ⟨hYH, hYW⟩ := hly
  go_wp2_with fail
  obtain ⟨wA, hwA⟩ : ∃ z, z = ((w1.alloc (.cells #[.int .i64 slot, .slice a0 H.length c0, .slice a1 W.length c1] 25)).alloc (.cells #[.int .i64 xs, .int .i64 xt, .bool xh, .bool xf] 27)) := ⟨_, rfl⟩
  have hbn : Below w1.heap.size w1 wA := by rw [hwA]; exact ((Below.refl _ _).alloc (Nat.le_refl _) _).alloc (by simp; try omega) _
  have HL : Hid (Bx wA (w1.heap.size) 25 #[.int .i64 slot, .slice a0 H.length c0, .slice a1 W.length c1]) := by rw [hwA]; exact (Bx.made _ _ _).allocK
  have HH : Hid (Bx wA (w1.heap.size + 1) 27 #[.int .i64 xs, .int .i64 xt, .bool xh, .bool xf]) := by rw [hwA]; exact ⟨heap_alloc2_new w1 (.cells #[.int .i64 slot, .slice a0 H.length c0, .slice a1 W.length c1] 25) (.cells #[.int .i64 xs, .int .i64 xt, .bool xh, .bool xf] 27)⟩
  rw [← hwA]
  clear hwA
  replace HK := hide ((unhide HK).kept hbn)
  replace HB := hide ((unhide HB).trans (hbn.mono (unhide HB).size))
  clear hbn
  refine (unhide HCS _ (unhide HK)).mono ?_; rintro e w2 ⟨sa, sb, sc, sd, sr, st, rfl, hx2, ht2, h2⟩
  replace HK := hide ((unhide HK).kept h2)
  replace HL := hide ((unhide HL).kept h2)
  replace HH := hide ((unhide HH).kept h2)
  replace HB := hide ((unhide HB).trans (h2.mono (unhide HB).size))
  clear h2
  have HSX := hide hx2
  have HST := hide ht2
  clear hx2 ht2 HCS
  obtain ⟨hl0, hl1, hl2⟩ := (unhide HL).three
  have hlt := (unhide HL).lt
  obtain ⟨hh0, hh1, hh2, hh3⟩ := (unhide HH).four
  have hht := (unhide HH).lt
  go_wp2_with fail
  clear hl0 hl1 hl2 hlt hh0 hh1 hh2 hh3 hht
  obtain ⟨wB, hwB⟩ : ∃ z, z = (w2.alloc (.cells #[.int .i64 xslot, .slice sa XH.length sb, .slice sc XW.length sd] 25)) := ⟨_, rfl⟩
  have hbn : Below w2.heap.size w2 wB := by rw [hwB]; exact (Below.refl _ _).alloc (Nat.le_refl _) _
  have HS : Hid (Bx wB (w2.heap.size) 25 #[.int .i64 xslot, .slice sa XH.length sb, .slice sc XW.length sd]) := by rw [hwB]; exact Bx.made _ _ _
  rw [← hwB]
  clear hwB
  replace HK := hide ((unhide HK).kept hbn)
  replace HL := hide ((unhide HL).kept hbn)
  replace HH := hide ((unhide HH).kept hbn)
  replace HSX := hide ((unhide HSX).kept hbn)
  replace HST := hide ((unhide HST).kept hbn)
  replace HB := hide ((unhide HB).trans (hbn.mono (unhide HB).size))
  clear hbn
  refine (unhide HCI _ (unhide HK)).mono ?_; rintro e w4 ⟨ta, tb, tc, td, tr, tt, rfl, hx4, ht4, h4⟩
  replace HK := hide ((unhide HK).kept h4)
  replace HL := hide ((unhide HL).kept h4)
  replace HH := hide ((unhide HH).kept h4)
  replace HSX := hide ((unhide HSX).kept h4)
  replace HST := hide ((unhide HST).kept h4)
  replace HS := hide ((unhide HS).kept h4)
  replace HB := hide ((unhide HB).trans (h4.mono (unhide HB).size))
  clear h4
  have HTX := hide hx4
  have HTT := hide ht4
  clear hx4 ht4 HCI
  obtain ⟨hl0, hl1, hl2⟩ := (unhide HL).three
  have hlt := (unhide HL).lt
  obtain ⟨hh0, hh1, hh2, hh3⟩ := (unhide HH).four
  have hht := (unhide HH).lt
  obtain ⟨hs0, hs1, hs2⟩ := (unhide HS).three
  have hst := (unhide HS).lt
  go_wp2_with fail
  clear hl0 hl1 hl2 hlt hh0 hh1 hh2 hh3 hht hs0 hs1 hs2 hst
  obtain ⟨wC, hwC⟩ : ∃ z, z = (w4.alloc (.cells #[.int .i64 xslot, .slice ta XH.length tb, .slice tc XW.length td] 25)) := ⟨_, rfl⟩
  have hbn : Below w4.heap.size w4 wC := by rw [hwC]; exact (Below.refl _ _).alloc (Nat.le_refl _) _
  have HT_ : Hid (Bx wC (w4.heap.size) 25 #[.int .i64 xslot, .slice ta XH.length tb, .slice tc XW.length td]) := by rw [hwC]; exact Bx.made _ _ _
  rw [← hwC]
  clear hwC
  replace HK := hide ((unhide HK).kept hbn)
  replace HL := hide ((unhide HL).kept hbn)
  replace HH := hide ((unhide HH).kept hbn)
  replace HSX := hide ((unhide HSX).kept hbn)
  replace HST := hide ((unhide HST).kept hbn)
  replace HS := hide ((unhide HS).kept hbn)
  replace HTX := hide ((unhide HTX).kept hbn)
  replace HTT := hide ((unhide HTT).kept hbn)
  replace HB := hide ((unhide HB).trans (hbn.mono (unhide HB).size))
  clear hbn
  refine (loLock_same ⟨xslot, XH, XW⟩ _ _ _ _ _ (unhide HTX) (unhide HSX)).mono ?_; rintro e w5 ⟨rfl, h5⟩
  replace HK := hide ((unhide HK).kept h5)
  replace HL := hide ((unhide HL).kept h5)
  replace HH := hide ((unhide HH).kept h5)
  replace HSX := hide ((unhide HSX).kept h5)
  replace HST := hide ((unhide HST).kept h5)
  replace HS := hide ((unhide HS).kept h5)
  replace HTX := hide ((unhide HTX).kept h5)
  replace HTT := hide ((unhide HTT).kept h5)
  replace HT_ := hide ((unhide HT_).kept h5)
  replace HB := hide ((unhide HB).trans (h5.mono (unhide HB).size))
  clear h5
  go_wp2_with fail
  refine (loHolds_same _ _ T _ (unhide HTT) (unhide HST)).mono ?_; rintro e w6 ⟨rfl, h6⟩
  replace HK := hide ((unhide HK).kept h6)
  replace HL := hide ((unhide HL).kept h6)
  replace HH := hide ((unhide HH).kept h6)
  replace HSX := hide ((unhide HSX).kept h6)
  replace HST := hide ((unhide HST).kept h6)
  replace HS := hide ((unhide HS).kept h6)
  replace HTX := hide ((unhide HTX).kept h6)
  replace HTT := hide ((unhide HTT).kept h6)
  replace HT_ := hide ((unhide HT_).kept h6)
  replace HB := hide ((unhide HB).trans (h6.mono (unhide HB).size))
  clear h6
  obtain ⟨ht_0, ht_1, ht_2⟩ := (unhide HT_).three
  have ht_t := (unhide HT_).lt
  obtain ⟨hh0, hh1, hh2, hh3⟩ := (unhide HH).four
  have hht := (unhide HH).lt
  go_wp2_with fail
  clear ht_0 ht_1 ht_2 ht_t hh0 hh1 hh2 hh3 hht
  refine (unhide HFI _ _ _ (unhide HTX)).mono ?_; rintro e w7 ⟨ya, yb, yc, yd, yr, yt, rfl, hx7, ht7, h7⟩
  replace HK := hide ((unhide HK).kept h7)
  replace HL := hide ((unhide HL).kept h7)
  replace HH := hide ((unhide HH).kept h7)
  replace HSX := hide ((unhide HSX).kept h7)
  replace HST := hide ((unhide HST).kept h7)
  replace HS := hide ((unhide HS).kept h7)
  replace HTX := hide ((unhide HTX).kept h7)
  replace HTT := hide ((unhide HTT).kept h7)
  replace HT_ := hide ((unhide HT_).kept h7)
  replace HB := hide ((unhide HB).trans (h7.mono (unhide HB).size))
  clear h7
  have HYX := hide hx7
  have HYT := hide ht7
  clear hx7 ht7 HFI
  obtain ⟨ht_0, ht_1, ht_2⟩ := (unhide HT_).three
  have ht_t := (unhide HT_).lt
  obtain ⟨hh0, hh1, hh2, hh3⟩ := (unhide HH).four
  have hht := (unhide HH).lt
  go_wp2_with fail
  clear ht_0 ht_1 ht_2 ht_t hh0 hh1 hh2 hh3 hht
  obtain ⟨wD, hwD⟩ : ∃ z, z = (w7.alloc (.cells #[.int .i64 yslot, .slice ya YH.length yb, .slice yc YW.length yd] 25)) := ⟨_, rfl⟩
  have hbn : Below w7.heap.size w7 wD := by rw [hwD]; exact (Below.refl _ _).alloc (Nat.le_refl _) _
  have HY : Hid (Bx wD (w7.heap.size) 25 #[.int .i64 yslot, .slice ya YH.length yb, .slice yc YW.length yd]) := by rw [hwD]; exact Bx.made _ _ _
  rw [← hwD]
  clear hwD
  replace HK := hide ((unhide HK).kept hbn)
  replace HL := hide ((unhide HL).kept hbn)
  replace HH := hide ((unhide HH).kept hbn)
  replace HSX := hide ((unhide HSX).kept hbn)
  replace HST := hide ((unhide HST).kept hbn)
  replace HS := hide ((unhide HS).kept hbn)
  replace HTX := hide ((unhide HTX).kept hbn)
  replace HTT := hide ((unhide HTT).kept hbn)
  replace HT_ := hide ((unhide HT_).kept hbn)
  replace HYX := hide ((unhide HYX).kept hbn)
  replace HYT := hide ((unhide HYT).kept hbn)
  replace HB := hide ((unhide HB).trans (hbn.mono (unhide HB).size))
  clear hbn
  refine (unhide HFS _ _ _ (unhide HTX)).mono ?_; rintro e w8 ⟨za, zb, zc, zd, zr, zt, rfl, hx7, ht7, h7⟩
  replace HK := hide ((unhide HK).kept h7)
  replace HL := hide ((unhide HL).kept h7)
  replace HH := hide ((unhide HH).kept h7)
  replace HSX := hide ((unhide HSX).kept h7)
  replace HST := hide ((unhide HST).kept h7)
  replace HS := hide ((unhide HS).kept h7)
  replace HTX := hide ((unhide HTX).kept h7)
  replace HTT := hide ((unhide HTT).kept h7)
  replace HT_ := hide ((unhide HT_).kept h7)
  replace HYX := hide ((unhide HYX).kept h7)
  replace HYT := hide ((unhide HYT).kept h7)
  replace HY := hide ((unhide HY).kept h7)
  replace HB := hide ((unhide HB).trans (h7.mono (unhide HB).size))
  clear h7
  have HZX := hide hx7
  have HZT := hide ht7
  clear hx7 ht7 HFS
  obtain ⟨hy0, hy1, hy2⟩ := (unhide HY).three
  have hyt := (unhide HY).lt
  go_wp2_with fail
  clear hy0 hy1 hy2 hyt
  obtain ⟨wE, hwE⟩ : ∃ z, z = (w8.alloc (.cells #[.int .i64 yslot, .slice za YH.length zb, .slice zc YW.length zd] 25)) := ⟨_, rfl⟩
  have hbn : Below w8.heap.size w8 wE := by rw [hwE]; exact (Below.refl _ _).alloc (Nat.le_refl _) _
  have HZ : Hid (Bx wE (w8.heap.size) 25 #[.int .i64 yslot, .slice za YH.length zb, .slice zc YW.length zd]) := by rw [hwE]; exact Bx.made _ _ _
  rw [← hwE]
  clear hwE
  replace HK := hide ((unhide HK).kept hbn)
  replace HL := hide ((unhide HL).kept hbn)
  replace HH := hide ((unhide HH).kept hbn)
  replace HSX := hide ((unhide HSX).kept hbn)
  replace HST := hide ((unhide HST).kept hbn)
  replace HS := hide ((unhide HS).kept hbn)
  replace HTX := hide ((unhide HTX).kept hbn)
  replace HTT := hide ((unhide HTT).kept hbn)
  replace HT_ := hide ((unhide HT_).kept hbn)
  replace HYX := hide ((unhide HYX).kept hbn)
  replace HYT := hide ((unhide HYT).kept hbn)
  replace HY := hide ((unhide HY).kept hbn)
  replace HZX := hide ((unhide HZX).kept hbn)
  replace HZT := hide ((unhide HZT).kept hbn)
  replace HB := hide ((unhide HB).trans (hbn.mono (unhide HB).size))
  clear hbn
  refine (loLock_same ⟨yslot, YH, YW⟩ _ _ _ _ _ (unhide HYX) (unhide HZX)).mono ?_; rintro e w9 ⟨rfl, h5⟩
  replace HK := hide ((unhide HK).kept h5)
  replace HL := hide ((unhide HL).kept h5)
  replace HH := hide ((unhide HH).kept h5)
  replace HSX := hide ((unhide HSX).kept h5)
  replace HST := hide ((unhide HST).kept h5)
  replace HS := hide ((unhide HS).kept h5)
  replace HTX := hide ((unhide HTX).kept h5)
  replace HTT := hide ((unhide HTT).kept h5)
  replace HT_ := hide ((unhide HT_).kept h5)
  replace HYX := hide ((unhide HYX).kept h5)
  replace HYT := hide ((unhide HYT).kept h5)
  replace HY := hide ((unhide HY).kept h5)
  replace HZX := hide ((unhide HZX).kept h5)
  replace HZT := hide ((unhide HZT).kept h5)
  replace HZ := hide ((unhide HZ).kept h5)
  replace HB := hide ((unhide HB).trans (h5.mono (unhide HB).size))
  clear h5
  go_wp2_with fail
  refine (loHolds_same _ _ G _ (unhide HYT) (unhide HZT)).mono ?_; rintro e wF ⟨rfl, h6⟩
  replace HK := hide ((unhide HK).kept h6)
  replace HL := hide ((unhide HL).kept h6)
  replace HH := hide ((unhide HH).kept h6)
  replace HSX := hide ((unhide HSX).kept h6)
  replace HST := hide ((unhide HST).kept h6)
  replace HS := hide ((unhide HS).kept h6)
  replace HTX := hide ((unhide HTX).kept h6)
  replace HTT := hide ((unhide HTT).kept h6)
  replace HT_ := hide ((unhide HT_).kept h6)
  replace HYX := hide ((unhide HYX).kept h6)
  replace HYT := hide ((unhide HYT).kept h6)
  replace HY := hide ((unhide HY).kept h6)
  replace HZX := hide ((unhide HZX).kept h6)
  replace HZT := hide ((unhide HZT).kept h6)
  replace HZ := hide ((unhide HZ).kept h6)
  replace HB := hide ((unhide HB).trans (h6.mono (unhide HB).size))
  clear h6
  obtain ⟨hl0, hl1, hl2⟩ := (unhide HL).three
  have hlt := (unhide HL).lt
  go_wp2_with fail
  clear hl0 hl1 hl2 hlt
  refine (unhide HOS _ (unhide HK)).mono ?_; rintro e wG ⟨rfl, h7⟩
  replace HK := hide ((unhide HK).kept h7)
  replace HL := hide ((unhide HL).kept h7)
  replace HH := hide ((unhide HH).kept h7)
  replace HSX := hide ((unhide HSX).kept h7)
  replace HST := hide ((unhide HST).kept h7)
  replace HS := hide ((unhide HS).kept h7)
  replace HTX := hide ((unhide HTX).kept h7)
  replace HTT := hide ((unhide HTT).kept h7)
  replace HT_ := hide ((unhide HT_).kept h7)
  replace HYX := hide ((unhide HYX).kept h7)
  replace HYT := hide ((unhide HYT).kept h7)
  replace HY := hide ((unhide HY).kept h7)
  replace HZX := hide ((unhide HZX).kept h7)
  replace HZT := hide ((unhide HZT).kept h7)
  replace HZ := hide ((unhide HZ).kept h7)
  replace HB := hide ((unhide HB).trans (h7.mono (unhide HB).size))
  clear h7
  clear HOS
  cases OK
  ·
    obtain ⟨hy0, hy1, hy2⟩ := (unhide HY).three
    have hyt := (unhide HY).lt
    obtain ⟨hz0, hz1, hz2⟩ := (unhide HZ).three
    have hzt := (unhide HZ).lt
    go_wp2_with fail
    clear hy0 hy1 hy2 hyt hz0 hz1 hz2 hzt
    refine (loLock_same ⟨yslot, YH, YW⟩ _ _ _ _ _ (unhide HYX) (unhide HZX)).mono ?_; rintro e wH ⟨rfl, h5⟩
    replace HK := hide ((unhide HK).kept h5)
    replace HL := hide ((unhide HL).kept h5)
    replace HH := hide ((unhide HH).kept h5)
    replace HSX := hide ((unhide HSX).kept h5)
    replace HST := hide ((unhide HST).kept h5)
    replace HS := hide ((unhide HS).kept h5)
    replace HTX := hide ((unhide HTX).kept h5)
    replace HTT := hide ((unhide HTT).kept h5)
    replace HT_ := hide ((unhide HT_).kept h5)
    replace HYX := hide ((unhide HYX).kept h5)
    replace HYT := hide ((unhide HYT).kept h5)
    replace HY := hide ((unhide HY).kept h5)
    replace HZX := hide ((unhide HZX).kept h5)
    replace HZT := hide ((unhide HZT).kept h5)
    replace HZ := hide ((unhide HZ).kept h5)
    replace HB := hide ((unhide HB).trans (h5.mono (unhide HB).size))
    clear h5
    go_wp2_with fail
    refine (loHolds_same _ _ G _ (unhide HYT) (unhide HZT)).mono ?_; rintro e wI ⟨rfl, h6⟩
    replace HK := hide ((unhide HK).kept h6)
    replace HL := hide ((unhide HL).kept h6)
    replace HH := hide ((unhide HH).kept h6)
    replace HSX := hide ((unhide HSX).kept h6)
    replace HST := hide ((unhide HST).kept h6)
    replace HS := hide ((unhide HS).kept h6)
    replace HTX := hide ((unhide HTX).kept h6)
    replace HTT := hide ((unhide HTT).kept h6)
    replace HT_ := hide ((unhide HT_).kept h6)
    replace HYX := hide ((unhide HYX).kept h6)
    replace HYT := hide ((unhide HYT).kept h6)
    replace HY := hide ((unhide HY).kept h6)
    replace HZX := hide ((unhide HZX).kept h6)
    replace HZT := hide ((unhide HZT).kept h6)
    replace HZ := hide ((unhide HZ).kept h6)
    replace HB := hide ((unhide HB).trans (h6.mono (unhide HB).size))
    clear h6
    go_wp2_with fail
    go_ret
    exact ⟨rfl, unhide HB⟩
  ·
    have HNX := hide (unhide HMX (by first | rfl | trivial))
    have HNY := hide (unhide HMY (by first | rfl | trivial))
    clear HMX HMY HSX HST HS HTT HZX HZT HZ HYT HOI HOX HK HL HH
    go_wp2_with fail
    generalize hN1 : XH.length = N1 at *
    have HN1 := hide hN1
    clear hN1
    generalize hM1 : XW.length = M1 at *
    have HM1 := hide hM1
    clear hM1
    generalize hN2 : YH.length = N2 at *
    have HN2 := hide hN2
    clear hN2
    generalize hM2 : YW.length = M2 at *
    have HM2 := hide hM2
    clear hM2
    go_loopw [15] (fun i wr => ∃ k : Nat, k ≤ 2 ∧ i = .int .i64 k ∧ Below wG.heap.size wG wr) (fun i _ => 2 - (intOf i).toNat)
    case atStart => exact ⟨0, Nat.zero_le _, rfl, Below.refl _ _⟩
    case round =>
      obtain ⟨k, hk, rfl, hb⟩ := hrel
      have HBR := hide hb
      have t_x := (unhide HT_).kept hb
      have t_y := (unhide HY).kept hb
      have ltx := t_x.lt
      have lty := t_y.lt
      obtain ⟨t0, t1, t2⟩ := t_x.three
      obtain ⟨u0, u1, u2⟩ := t_y.three
      clear hb t_x t_y
      rename World => wo
      have hk3 : k = 0 ∨ k = 1 ∨ k = 2 := by omega
      rcases hk3 with rfl | rfl | rfl
      ·
        go_wp2_with fail
        obtain ⟨wv, hwv⟩ : ∃ z, z = wo.alloc (.cells #[.int .i64 xslot, .slice ta N1 tb, .slice tc M1 td] 25) := ⟨_, rfl⟩
        have HBV : Hid (Below wG.heap.size wG wv) := by rw [hwv]; exact (unhide HBR).alloc (unhide HBR).size _
        have HVX : Hid (Bx wv wo.heap.size 25 #[.int .i64 xslot, .slice ta N1 tb, .slice tc M1 td]) := by rw [hwv]; exact Bx.made _ _ _
        have HVR := hide ((unhide HTX).kept (unhide HBV))
        (first | rw [← hwv] | skip)
        clear hwv t0 t1 t2 u0 u1 u2 ltx lty

        go_loopw [17] (fun i wr => ∃ p : Nat, p ≤ N1 ∧ i = .int .i64 p ∧ Below wv.heap.size wv wr) (fun i _ => N1 - (intOf i).toNat)
        case atStart => exact ⟨0, Nat.zero_le _, rfl, Below.refl _ _⟩
        case round =>
          obtain ⟨p, hp, rfl, hb1⟩ := hrel
          obtain ⟨t0, t1, t2⟩ := ((unhide HVX).kept hb1).three
          have HB1 := hide hb1
          clear hb1
          by_cases hlt1 : p < N1
          ·
            go_wp2_with fail
            clear t0 t1 t2
            rename World => wp
            go_loopw [18] (fun i wr => ∃ q : Nat, q ≤ M1 ∧ i = .int .i64 q ∧ Below wv.heap.size wv wr) (fun i _ => M1 - (intOf i).toNat)
            case atStart => exact ⟨0, Nat.zero_le _, rfl, unhide HB1⟩
            case round =>
              obtain ⟨q, hq, rfl, hb2⟩ := hrel
              obtain ⟨t0, t1, t2⟩ := ((unhide HVX).kept hb2).three
              have HB2 := hide hb2
              clear hb2
              by_cases hlt2 : q < M1
              ·
                obtain ⟨bh, oh, rfl⟩ := ((unhide HVR).held).some_of (by rw [unhide HN1]; omega)
                obtain ⟨bw, ow, rfl⟩ := ((unhide HVR).waits).some_of (by rw [unhide HM1]; omega)
                obtain ⟨d0, d1, d2, d3⟩ := hd_cells (((unhide HVR).held).kept (unhide HB2)) (i := p) (by rw [unhide HN1]; exact hlt1)
                obtain ⟨g0, g1, g2, g3⟩ := hd_cells (((unhide HVR).waits).kept (unhide HB2)) (i := q) (by rw [unhide HM1]; exact hlt2)
                obtain ⟨n1, n2⟩ := unhide HNX p q hlt1 hlt2
                generalize XH.getD p Hd.z = xx at *
                generalize XW.getD q Hd.z = yy at *
                rw [n2] at g3
                have hneb : (xx.stamp == yy.stamp) = false := by simpa using n1
                clear n1 n2
                have ipa : (p : Int) < (N1 : Int) := by omega
                have ipb : (0 : Int) ≤ (p : Int) := by omega
                have iqa : (q : Int) < (M1 : Int) := by omega
                have iqb : (0 : Int) ≤ (q : Int) := by omega
                go_wp2_with fail
                go_quiet (fail)
                go_wp2_with fail
                go_roundw
                case rel => exact ⟨q + 1, hlt2, by go_num, below_drewN (unhide HB2) _⟩
                case measure => simp [intOf]; omega
              ·
                go_wp2_with fail
                go_roundw
                case rel => exact ⟨p + 1, hlt1, by go_num, unhide HB2⟩
                case measure => simp [intOf]; omega
          ·
            go_wp2_with fail
            go_roundw
            case rel => exact ⟨1, by omega, by go_num, (unhide HBV).trans ((unhide HB1).mono (unhide HBV).size)⟩
            case measure => simp [intOf]
      ·
        go_wp2_with fail
        obtain ⟨wv, hwv⟩ : ∃ z, z = wo.alloc (.cells #[.int .i64 yslot, .slice ya N2 yb, .slice yc M2 yd] 25) := ⟨_, rfl⟩
        have HBV : Hid (Below wG.heap.size wG wv) := by rw [hwv]; exact (unhide HBR).alloc (unhide HBR).size _
        have HVX : Hid (Bx wv wo.heap.size 25 #[.int .i64 yslot, .slice ya N2 yb, .slice yc M2 yd]) := by rw [hwv]; exact Bx.made _ _ _
        have HVR := hide ((unhide HYX).kept (unhide HBV))
        (first | rw [← hwv] | skip)
        clear hwv t0 t1 t2 u0 u1 u2 ltx lty

        go_loopw [17] (fun i wr => ∃ p : Nat, p ≤ N2 ∧ i = .int .i64 p ∧ Below wv.heap.size wv wr) (fun i _ => N2 - (intOf i).toNat)
        case atStart => exact ⟨0, Nat.zero_le _, rfl, Below.refl _ _⟩
        case round =>
          obtain ⟨p, hp, rfl, hb1⟩ := hrel
          obtain ⟨t0, t1, t2⟩ := ((unhide HVX).kept hb1).three
          have HB1 := hide hb1
          clear hb1
          by_cases hlt1 : p < N2
          ·
            go_wp2_with fail
            clear t0 t1 t2
            rename World => wp
            go_loopw [18] (fun i wr => ∃ q : Nat, q ≤ M2 ∧ i = .int .i64 q ∧ Below wv.heap.size wv wr) (fun i _ => M2 - (intOf i).toNat)
            case atStart => exact ⟨0, Nat.zero_le _, rfl, unhide HB1⟩
            case round =>
              obtain ⟨q, hq, rfl, hb2⟩ := hrel
              obtain ⟨t0, t1, t2⟩ := ((unhide HVX).kept hb2).three
              have HB2 := hide hb2
              clear hb2
              by_cases hlt2 : q < M2
              ·
                obtain ⟨bh, oh, rfl⟩ := ((unhide HVR).held).some_of (by rw [unhide HN2]; omega)
                obtain ⟨bw, ow, rfl⟩ := ((unhide HVR).waits).some_of (by rw [unhide HM2]; omega)
                obtain ⟨d0, d1, d2, d3⟩ := hd_cells (((unhide HVR).held).kept (unhide HB2)) (i := p) (by rw [unhide HN2]; exact hlt1)
                obtain ⟨g0, g1, g2, g3⟩ := hd_cells (((unhide HVR).waits).kept (unhide HB2)) (i := q) (by rw [unhide HM2]; exact hlt2)
                obtain ⟨n1, n2⟩ := unhide HNY p q hlt1 hlt2
                generalize YH.getD p Hd.z = xx at *
                generalize YW.getD q Hd.z = yy at *
                rw [n2] at g3
                have hneb : (xx.stamp == yy.stamp) = false := by simpa using n1
                clear n1 n2
                have ipa : (p : Int) < (N2 : Int) := by omega
                have ipb : (0 : Int) ≤ (p : Int) := by omega
                have iqa : (q : Int) < (M2 : Int) := by omega
                have iqb : (0 : Int) ≤ (q : Int) := by omega
                go_wp2_with fail
                go_quiet (fail)
                go_wp2_with fail
                go_roundw
                case rel => exact ⟨q + 1, hlt2, by go_num, below_drewN (unhide HB2) _⟩
                case measure => simp [intOf]; omega
              ·
                go_wp2_with fail
                go_roundw
                case rel => exact ⟨p + 1, hlt1, by go_num, unhide HB2⟩
                case measure => simp [intOf]; omega
          ·
            go_wp2_with fail
            go_roundw
            case rel => exact ⟨2, by omega, by go_num, (unhide HBV).trans ((unhide HB1).mono (unhide HBV).size)⟩
            case measure => simp [intOf]
      ·
        go_wp2_with fail
        go_ret
        exact ⟨rfl, (unhide HB).trans ((unhide HBR).mono (unhide HB).size)⟩

end Go.Proofs.Ytoojnhodjkpecaa
