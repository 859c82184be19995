/- The law FnLockTwice answers true at every code. -/
import Derived.Test.YtoojnhodjkpecaaLwK
import Derived.Test.YtoojnhodjkpecaaDrL5
namespace Go.Proofs.Ytoojnhodjkpecaa
open Go.RowKit

set_option maxRecDepth 100000 in
set_option maxHeartbeats 1000000 in
theorem lawLockTwice_any (v : Value) (n : Nat) (w : World) (hv : BytesAt w v n) :
    Calls Try.prog 4 #[v] w fun e w' => e = .returned (.bool true) ∧ Below w.heap.size w w' := by
  have HV := hide hv
  obtain ⟨a, cap, rfl, h1, h2, h3⟩ := hv
  unfold maxLen at h2
  clear h3
  by_cases hn : 1048576 < (n : Int)
  · go_enter Try.func4, Try.ntmps4
    go_wp2_with fail
    go_ret
    exact ⟨rfl, Below.refl _ _⟩
  go_enter Try.func4, Try.ntmps4
  go_wp2_with fail
  refine (drawLockAsk_any _ n w (unhide HV)).mono ?_; rintro e w1 ⟨l, a, b, x, rfl, hk1, hln, hlm, hxt, b1⟩
  clear HV h1 h2
  obtain ⟨a0, c0, rfl, -⟩ := hk1.held.shape
  obtain ⟨a1, c1, rfl, -⟩ := hk1.waits.shape
  obtain ⟨slot, H, W⟩ := l
  obtain ⟨xs, xt, xh, xf⟩ := x
  simp only [lkV, hdV] at *
  have HK := hide hk1
  have HB := hide b1
  have HXT := hide hxt
  clear hk1 b1 hxt
  have HCS := hide (fun ww hk => askS_law (⟨slot, H, W⟩ : Lk) (.slice a0 H.length c0) (.slice a1 W.length c1) (⟨xs, xt, xh, xf⟩ : Hd) ww hk hln hlm)
  have HCI := hide (fun ww hk => askI_law (⟨slot, H, W⟩ : Lk) (.slice a0 H.length c0) (.slice a1 W.length c1) (⟨xs, xt, xh, xf⟩ : Hd) ww hk hln hlm)
  have HOS := hide (fun ww hk => lockOkS_law (⟨slot, H, W⟩ : Lk) (.slice a0 H.length c0) (.slice a1 W.length c1) ww hk hln hlm)
  have HOI := hide (fun ww hk => lockOkI_law (⟨slot, H, W⟩ : Lk) (.slice a0 H.length c0) (.slice a1 W.length c1) ww hk hln hlm)
  have hle := ask_40 (⟨slot, H, W⟩ : Lk) (⟨xs, xt, xh, xf⟩ : Hd)
  have hT : (askT (⟨slot, H, W⟩ : Lk) (⟨xs, xt, xh, xf⟩ : Hd)).length ≤ 1048576 := (ask_le (⟨slot, H, W⟩ : Lk) (⟨xs, xt, xh, xf⟩ : Hd)).2.2
  have HOX := hide (fun ww a b hk => lockOkI_law (askL (⟨slot, H, W⟩ : Lk) (⟨xs, xt, xh, xf⟩ : Hd)) a b ww hk (by omega) (by omega))
  have HC2 : Hid (lockOkB (⟨slot, H, W⟩ : Lk) = true → ∀ ww a b, LkAt ww (askL (⟨slot, H, W⟩ : Lk) (⟨xs, xt, xh, xf⟩ : Hd)) a b → Calls Try.prog 18 #[lkV (askL (⟨slot, H, W⟩ : Lk) (⟨xs, xt, xh, xf⟩ : Hd)) a b, hdV (⟨xs, xt, xh, xf⟩ : Hd)] ww fun e w' => ∃ a0 c0 a1 c1 r c, e = .returned (.tuple #[lkV (askL (⟨slot, H, W⟩ : Lk) (⟨xs, xt, xh, xf⟩ : Hd)) (.slice a0 (askL (⟨slot, H, W⟩ : Lk) (⟨xs, xt, xh, xf⟩ : Hd)).held.length c0) (.slice a1 (askL (⟨slot, H, W⟩ : Lk) (⟨xs, xt, xh, xf⟩ : Hd)).waits.length c1), .bool (askC (⟨slot, H, W⟩ : Lk) (⟨xs, xt, xh, xf⟩ : Hd)), .slice r 0 c]) ∧ LkAt w' (askL (⟨slot, H, W⟩ : Lk) (⟨xs, xt, xh, xf⟩ : Hd)) (.slice a0 (askL (⟨slot, H, W⟩ : Lk) (⟨xs, xt, xh, xf⟩ : Hd)).held.length c0) (.slice a1 (askL (⟨slot, H, W⟩ : Lk) (⟨xs, xt, xh, xf⟩ : Hd)).waits.length c1) ∧ Below ww.heap.size ww w') := fun h ww a b hk => by
    refine (askI_law (askL (⟨slot, H, W⟩ : Lk) (⟨xs, xt, xh, xf⟩ : Hd)) a b (⟨xs, xt, xh, xf⟩ : Hd) ww hk (by omega) (by omega)).mono ?_
    obtain ⟨t1, t2, t3⟩ := ask_twice (⟨xs, xt, xh, xf⟩ : Hd) h
    rw [t1, t2, t3]
    rintro e w' ⟨q0, q1, q2, q3, q4, q5, rfl, k1, -, k2⟩
    exact ⟨q0, q1, q2, q3, q4, q5, rfl, k1, k2⟩
  generalize askL (⟨slot, H, W⟩ : Lk) (⟨xs, xt, xh, xf⟩ : Hd) = X at *
  generalize askC (⟨slot, H, W⟩ : Lk) (⟨xs, xt, xh, xf⟩ : Hd) = C at *
  generalize askT (⟨slot, H, W⟩ : Lk) (⟨xs, xt, xh, xf⟩ : Hd) = T at *
  generalize lockOkB (⟨slot, H, W⟩ : Lk) = OK at *
  obtain ⟨xslot, XH, XW⟩ := X
  simp only [lkV, hdV] at *
  obtain ⟨hXH, hXW⟩ := hle
  have hcc : (C != C) = false := by simp
  have hoo : (OK != OK) = false := by simp
  have hce : (C == C) = true := by simp
  go_wp2_with fail
  obtain ⟨wA, hwA⟩ : ∃ z, z = ((w1.alloc (.cells #[.int .i64 slot, .slice a0 H.length c0, .slice a1 W.length c1] 25)).alloc (.cells #[.int .i64 xs, .int .i64 xt, .bool xh, .bool xf] 27)) := ⟨_, rfl⟩
  have hbn : Below w1.heap.size w1 wA := by rw [hwA]; exact ((Below.refl _ _).alloc (Nat.le_refl _) _).alloc (by simp; try omega) _
  have HL : Hid (Bx wA (w1.heap.size) 25 #[.int .i64 slot, .slice a0 H.length c0, .slice a1 W.length c1]) := by rw [hwA]; exact (Bx.made _ _ _).allocK
  have HH : Hid (Bx wA (w1.heap.size + 1) 27 #[.int .i64 xs, .int .i64 xt, .bool xh, .bool xf]) := by rw [hwA]; exact ⟨heap_alloc2_new w1 (.cells #[.int .i64 slot, .slice a0 H.length c0, .slice a1 W.length c1] 25) (.cells #[.int .i64 xs, .int .i64 xt, .bool xh, .bool xf] 27)⟩
  rw [← hwA]
  clear hwA
  replace HK := hide ((unhide HK).kept hbn)
  replace HB := hide ((unhide HB).trans (hbn.mono (unhide HB).size))
  clear hbn
  refine (unhide HCS _ (unhide HK)).mono ?_; rintro e w2 ⟨sa, sb, sc, sd, sr, st, rfl, hx2, ht2, h2⟩
  replace HK := hide ((unhide HK).kept h2)
  replace HL := hide ((unhide HL).kept h2)
  replace HH := hide ((unhide HH).kept h2)
  replace HB := hide ((unhide HB).trans (h2.mono (unhide HB).size))
  clear h2
  have HSX := hide hx2
  have HST := hide ht2
  clear hx2 ht2 HCS
  obtain ⟨hl0, hl1, hl2⟩ := (unhide HL).three
  have hlt := (unhide HL).lt
  obtain ⟨hh0, hh1, hh2, hh3⟩ := (unhide HH).four
  have hht := (unhide HH).lt
  go_wp2_with fail
  clear hl0 hl1 hl2 hlt hh0 hh1 hh2 hh3 hht
  obtain ⟨wB, hwB⟩ : ∃ z, z = (w2.alloc (.cells #[.int .i64 xslot, .slice sa XH.length sb, .slice sc XW.length sd] 25)) := ⟨_, rfl⟩
  have hbn : Below w2.heap.size w2 wB := by rw [hwB]; exact (Below.refl _ _).alloc (Nat.le_refl _) _
  have HS : Hid (Bx wB (w2.heap.size) 25 #[.int .i64 xslot, .slice sa XH.length sb, .slice sc XW.length sd]) := by rw [hwB]; exact Bx.made _ _ _
  rw [← hwB]
  clear hwB
  replace HK := hide ((unhide HK).kept hbn)
  replace HL := hide ((unhide HL).kept hbn)
  replace HH := hide ((unhide HH).kept hbn)
  replace HSX := hide ((unhide HSX).kept hbn)
  replace HST := hide ((unhide HST).kept hbn)
  replace HB := hide ((unhide HB).trans (hbn.mono (unhide HB).size))
  clear hbn
  refine (unhide HCI _ (unhide HK)).mono ?_; rintro e w4 ⟨ta, tb, tc, td, tr, tt, rfl, hx4, ht4, h4⟩
  replace HK := hide ((unhide HK).kept h4)
  replace HL := hide ((unhide HL).kept h4)
  replace HH := hide ((unhide HH).kept h4)
  replace HSX := hide ((unhide HSX).kept h4)
  replace HST := hide ((unhide HST).kept h4)
  replace HS := hide ((unhide HS).kept h4)
  replace HB := hide ((unhide HB).trans (h4.mono (unhide HB).size))
  clear h4
  have HTX := hide hx4
  have HTT := hide ht4
  clear hx4 ht4 HCI
  obtain ⟨hl0, hl1, hl2⟩ := (unhide HL).three
  have hlt := (unhide HL).lt
  obtain ⟨hh0, hh1, hh2, hh3⟩ := (unhide HH).four
  have hht := (unhide HH).lt
  obtain ⟨hs0, hs1, hs2⟩ := (unhide HS).three
  have hst := (unhide HS).lt
  go_wp2_with fail
  clear hl0 hl1 hl2 hlt hh0 hh1 hh2 hh3 hht hs0 hs1 hs2 hst
  obtain ⟨wC, hwC⟩ : ∃ z, z = (w4.alloc (.cells #[.int .i64 xslot, .slice ta XH.length tb, .slice tc XW.length td] 25)) := ⟨_, rfl⟩
  have hbn : Below w4.heap.size w4 wC := by rw [hwC]; exact (Below.refl _ _).alloc (Nat.le_refl _) _
  have HT_ : Hid (Bx wC (w4.heap.size) 25 #[.int .i64 xslot, .slice ta XH.length tb, .slice tc XW.length td]) := by rw [hwC]; exact Bx.made _ _ _
  rw [← hwC]
  clear hwC
  replace HK := hide ((unhide HK).kept hbn)
  replace HL := hide ((unhide HL).kept hbn)
  replace HH := hide ((unhide HH).kept hbn)
  replace HSX := hide ((unhide HSX).kept hbn)
  replace HST := hide ((unhide HST).kept hbn)
  replace HS := hide ((unhide HS).kept hbn)
  replace HTX := hide ((unhide HTX).kept hbn)
  replace HTT := hide ((unhide HTT).kept hbn)
  replace HB := hide ((unhide HB).trans (hbn.mono (unhide HB).size))
  clear hbn
  refine (loLock_same ⟨xslot, XH, XW⟩ _ _ _ _ _ (unhide HTX) (unhide HSX)).mono ?_; rintro e w5 ⟨rfl, h5⟩
  replace HK := hide ((unhide HK).kept h5)
  replace HL := hide ((unhide HL).kept h5)
  replace HH := hide ((unhide HH).kept h5)
  replace HSX := hide ((unhide HSX).kept h5)
  replace HST := hide ((unhide HST).kept h5)
  replace HS := hide ((unhide HS).kept h5)
  replace HTX := hide ((unhide HTX).kept h5)
  replace HTT := hide ((unhide HTT).kept h5)
  replace HT_ := hide ((unhide HT_).kept h5)
  replace HB := hide ((unhide HB).trans (h5.mono (unhide HB).size))
  clear h5
  obtain ⟨hl0, hl1, hl2⟩ := (unhide HL).three
  have hlt := (unhide HL).lt
  go_wp2_with fail
  clear hl0 hl1 hl2 hlt
  refine (loHolds_same _ _ T _ (unhide HTT) (unhide HST)).mono ?_; rintro e w6 ⟨rfl, h6⟩
  replace HK := hide ((unhide HK).kept h6)
  replace HL := hide ((unhide HL).kept h6)
  replace HH := hide ((unhide HH).kept h6)
  replace HSX := hide ((unhide HSX).kept h6)
  replace HST := hide ((unhide HST).kept h6)
  replace HS := hide ((unhide HS).kept h6)
  replace HTX := hide ((unhide HTX).kept h6)
  replace HTT := hide ((unhide HTT).kept h6)
  replace HT_ := hide ((unhide HT_).kept h6)
  replace HB := hide ((unhide HB).trans (h6.mono (unhide HB).size))
  clear h6
  obtain ⟨hl0, hl1, hl2⟩ := (unhide HL).three
  have hlt := (unhide HL).lt
  go_wp2_with fail
  clear hl0 hl1 hl2 hlt
  refine (unhide HOS _ (unhide HK)).mono ?_; rintro e w7 ⟨rfl, h7⟩
  replace HK := hide ((unhide HK).kept h7)
  replace HL := hide ((unhide HL).kept h7)
  replace HH := hide ((unhide HH).kept h7)
  replace HSX := hide ((unhide HSX).kept h7)
  replace HST := hide ((unhide HST).kept h7)
  replace HS := hide ((unhide HS).kept h7)
  replace HTX := hide ((unhide HTX).kept h7)
  replace HTT := hide ((unhide HTT).kept h7)
  replace HT_ := hide ((unhide HT_).kept h7)
  replace HB := hide ((unhide HB).trans (h7.mono (unhide HB).size))
  clear h7
  clear HOS
  cases OK
  ·
    obtain ⟨ht_0, ht_1, ht_2⟩ := (unhide HT_).three
    have ht_t := (unhide HT_).lt
    obtain ⟨hs0, hs1, hs2⟩ := (unhide HS).three
    have hst := (unhide HS).lt
    go_wp2_with fail
    clear ht_0 ht_1 ht_2 ht_t hs0 hs1 hs2 hst
    refine (loLock_same ⟨xslot, XH, XW⟩ _ _ _ _ _ (unhide HTX) (unhide HSX)).mono ?_; rintro e w8 ⟨rfl, h5⟩
    replace HK := hide ((unhide HK).kept h5)
    replace HL := hide ((unhide HL).kept h5)
    replace HH := hide ((unhide HH).kept h5)
    replace HSX := hide ((unhide HSX).kept h5)
    replace HST := hide ((unhide HST).kept h5)
    replace HS := hide ((unhide HS).kept h5)
    replace HTX := hide ((unhide HTX).kept h5)
    replace HTT := hide ((unhide HTT).kept h5)
    replace HT_ := hide ((unhide HT_).kept h5)
    replace HB := hide ((unhide HB).trans (h5.mono (unhide HB).size))
    clear h5
    go_wp2_with fail
    go_ret
    exact ⟨rfl, unhide HB⟩
  ·
    obtain ⟨ht_0, ht_1, ht_2⟩ := (unhide HT_).three
    have ht_t := (unhide HT_).lt
    obtain ⟨hh0, hh1, hh2, hh3⟩ := (unhide HH).four
    have hht := (unhide HH).lt
    go_wp2_with fail
    clear ht_0 ht_1 ht_2 ht_t hh0 hh1 hh2 hh3 hht
    refine (unhide HC2 (by first | rfl | trivial) _ _ _ (unhide HTX)).mono ?_; rintro e w8 ⟨ya, yb, yc, yd, yr, yt, rfl, hx8, h8⟩
    replace HK := hide ((unhide HK).kept h8)
    replace HL := hide ((unhide HL).kept h8)
    replace HH := hide ((unhide HH).kept h8)
    replace HSX := hide ((unhide HSX).kept h8)
    replace HST := hide ((unhide HST).kept h8)
    replace HS := hide ((unhide HS).kept h8)
    replace HTX := hide ((unhide HTX).kept h8)
    replace HTT := hide ((unhide HTT).kept h8)
    replace HT_ := hide ((unhide HT_).kept h8)
    replace HB := hide ((unhide HB).trans (h8.mono (unhide HB).size))
    clear h8
    have HYX := hide hx8
    clear hx8 HC2
    obtain ⟨ht_0, ht_1, ht_2⟩ := (unhide HT_).three
    have ht_t := (unhide HT_).lt
    go_wp2_with fail
    clear ht_0 ht_1 ht_2 ht_t
    obtain ⟨wD, hwD⟩ : ∃ z, z = (w8.alloc (.cells #[.int .i64 xslot, .slice ya XH.length yb, .slice yc XW.length yd] 25)) := ⟨_, rfl⟩
    have hbn : Below w8.heap.size w8 wD := by rw [hwD]; exact (Below.refl _ _).alloc (Nat.le_refl _) _
    have HY : Hid (Bx wD (w8.heap.size) 25 #[.int .i64 xslot, .slice ya XH.length yb, .slice yc XW.length yd]) := by rw [hwD]; exact Bx.made _ _ _
    rw [← hwD]
    clear hwD
    replace HK := hide ((unhide HK).kept hbn)
    replace HL := hide ((unhide HL).kept hbn)
    replace HH := hide ((unhide HH).kept hbn)
    replace HSX := hide ((unhide HSX).kept hbn)
    replace HST := hide ((unhide HST).kept hbn)
    replace HS := hide ((unhide HS).kept hbn)
    replace HTX := hide ((unhide HTX).kept hbn)
    replace HTT := hide ((unhide HTT).kept hbn)
    replace HT_ := hide ((unhide HT_).kept hbn)
    replace HYX := hide ((unhide HYX).kept hbn)
    replace HB := hide ((unhide HB).trans (hbn.mono (unhide HB).size))
    clear hbn
    refine (loLock_same ⟨xslot, XH, XW⟩ _ _ _ _ _ (unhide HYX) (unhide HTX)).mono ?_; rintro e w9 ⟨rfl, h5⟩
    replace HK := hide ((unhide HK).kept h5)
    replace HL := hide ((unhide HL).kept h5)
    replace HH := hide ((unhide HH).kept h5)
    replace HSX := hide ((unhide HSX).kept h5)
    replace HST := hide ((unhide HST).kept h5)
    replace HS := hide ((unhide HS).kept h5)
    replace HTX := hide ((unhide HTX).kept h5)
    replace HTT := hide ((unhide HTT).kept h5)
    replace HT_ := hide ((unhide HT_).kept h5)
    replace HYX := hide ((unhide HYX).kept h5)
    replace HY := hide ((unhide HY).kept h5)
    replace HB := hide ((unhide HB).trans (h5.mono (unhide HB).size))
    clear h5
    go_wp2_with fail
    go_ret
    exact ⟨rfl, unhide HB⟩

end Go.Proofs.Ytoojnhodjkpecaa
