/- The law FnLockShare answers true at every code. -/
import Derived.Test.YtoojnhodjkpecaaLwK
import Derived.Test.YtoojnhodjkpecaaDrL5
namespace Go.Proofs.Ytoojnhodjkpecaa
open Go.RowKit

set_option maxRecDepth 100000 in
set_option maxHeartbeats 1000000 in
theorem lawLockShare_any (v : Value) (n : Nat) (w : World) (hv : BytesAt w v n) :
    Calls Try.prog 8 #[v] w fun e w' => e = .returned (.bool true) ∧ Below w.heap.size w w' := by
  have HV := hide hv
  obtain ⟨a, cap, rfl, h1, h2, h3⟩ := hv
  unfold maxLen at h2
  clear h3
  by_cases hn : 1048576 < (n : Int)
  · go_enter Try.func8, Try.ntmps8
    go_wp2_with fail
    go_ret
    exact ⟨rfl, Below.refl _ _⟩
  go_enter Try.func8, Try.ntmps8
  go_wp2_with fail
  refine (drawLockAsk_any _ n w (unhide HV)).mono ?_; rintro e w1 ⟨l, a, b, x, rfl, hk1, hln, hlm, hxt, b1⟩
  clear HV h1 h2
  obtain ⟨a0, c0, rfl, -⟩ := hk1.held.shape
  obtain ⟨a1, c1, rfl, -⟩ := hk1.waits.shape
  obtain ⟨slot, H, W⟩ := l
  obtain ⟨xs, xt, xh, xf⟩ := x
  simp only [lkV, hdV] at *
  have HK := hide hk1
  have HB := hide b1
  have HXT := hide hxt
  clear hk1 b1 hxt
  have HCS := hide (fun ww hk => askS_law (⟨slot, H, W⟩ : Lk) (.slice a0 H.length c0) (.slice a1 W.length c1) (⟨xs, xt, true, xf⟩ : Hd) ww hk hln hlm)
  have HCI := hide (fun ww hk => askI_law (⟨slot, H, W⟩ : Lk) (.slice a0 H.length c0) (.slice a1 W.length c1) (⟨xs, xt, true, xf⟩ : Hd) ww hk hln hlm)
  have HOS := hide (fun ww hk => lockOkS_law (⟨slot, H, W⟩ : Lk) (.slice a0 H.length c0) (.slice a1 W.length c1) ww hk hln hlm)
  have HOI := hide (fun ww hk => lockOkI_law (⟨slot, H, W⟩ : Lk) (.slice a0 H.length c0) (.slice a1 W.length c1) ww hk hln hlm)
  have hle := ask_40 (⟨slot, H, W⟩ : Lk) (⟨xs, xt, true, xf⟩ : Hd)
  have hT : (askT (⟨slot, H, W⟩ : Lk) (⟨xs, xt, true, xf⟩ : Hd)).length ≤ 1048576 := (ask_le (⟨slot, H, W⟩ : Lk) (⟨xs, xt, true, xf⟩ : Hd)).2.2
  have HOX := hide (fun ww a b hk => lockOkI_law (askL (⟨slot, H, W⟩ : Lk) (⟨xs, xt, true, xf⟩ : Hd)) a b ww hk (by omega) (by omega))
  have HM : Hid (lockOkB (⟨slot, H, W⟩ : Lk) = true → xf = false → 1 ≤ xs → xs ≤ 9999 → 1 ≤ xt → xt ≤ 9999 → H.length < 16 → W.length = 0 → (∀ j, j < H.length → (H.getD j Hd.z).share = true ∧ (H.getD j Hd.z).stamp ≠ xs) → askC (⟨slot, H, W⟩ : Lk) (⟨xs, xt, true, xf⟩ : Hd) = true ∧ (askT (⟨slot, H, W⟩ : Lk) (⟨xs, xt, true, xf⟩ : Hd)).length = 0 ∧ (askL (⟨slot, H, W⟩ : Lk) (⟨xs, xt, true, xf⟩ : Hd)).held.length = H.length + 1) := fun h0 h1 h2 h3 h4 h5 h6 h7 h8 => by
    obtain ⟨q1, q2, q3⟩ := ask_share h0 (h := (⟨xs, xt, true, xf⟩ : Hd)) (by simp [badB, holdOkB, inB, h1, h2, h3, h4, h5]) h6 (List.length_eq_zero_iff.1 h7) rfl (fun y hy => by
      obtain ⟨j, hj, rfl⟩ := List.getElem_of_mem hy
      have := h8 j hj
      rwa [show H.getD j Hd.z = H[j] from by simp [List.getD, hj]] at this)
    exact ⟨q1, by rw [q2]; rfl, q3⟩
  generalize askL (⟨slot, H, W⟩ : Lk) (⟨xs, xt, true, xf⟩ : Hd) = X at *
  generalize askC (⟨slot, H, W⟩ : Lk) (⟨xs, xt, true, xf⟩ : Hd) = C at *
  generalize askT (⟨slot, H, W⟩ : Lk) (⟨xs, xt, true, xf⟩ : Hd) = T at *
  generalize lockOkB (⟨slot, H, W⟩ : Lk) = OK at *
  obtain ⟨xslot, XH, XW⟩ := X
  simp only [lkV, hdV] at *
  obtain ⟨hXH, hXW⟩ := hle
  have hcc : (C != C) = false := by simp
  have hoo : (OK != OK) = false := by simp
  have hce : (C == C) = true := by simp
  go_wp2_with fail
  obtain ⟨wA, hwA⟩ : ∃ z, z = ((w1.alloc (.cells #[.int .i64 slot, .slice a0 H.length c0, .slice a1 W.length c1] 25)).alloc (.cells #[.int .i64 xs, .int .i64 xt, .bool true, .bool xf] 27)) := ⟨_, rfl⟩
  have hbn : Below w1.heap.size w1 wA := by rw [hwA]; exact ((Below.refl _ _).alloc (Nat.le_refl _) _).alloc (by simp; try omega) _
  have HL : Hid (Bx wA (w1.heap.size) 25 #[.int .i64 slot, .slice a0 H.length c0, .slice a1 W.length c1]) := by rw [hwA]; exact (Bx.made _ _ _).allocK
  have HH : Hid (Bx wA (w1.heap.size + 1) 27 #[.int .i64 xs, .int .i64 xt, .bool true, .bool xf]) := by rw [hwA]; exact ⟨heap_alloc2_new w1 (.cells #[.int .i64 slot, .slice a0 H.length c0, .slice a1 W.length c1] 25) (.cells #[.int .i64 xs, .int .i64 xt, .bool true, .bool xf] 27)⟩
  rw [← hwA]
  clear hwA
  replace HK := hide ((unhide HK).kept hbn)
  replace HB := hide ((unhide HB).trans (hbn.mono (unhide HB).size))
  clear hbn
  refine (unhide HCS _ (unhide HK)).mono ?_; rintro e w2 ⟨sa, sb, sc, sd, sr, st, rfl, hx2, ht2, h2⟩
  replace HK := hide ((unhide HK).kept h2)
  replace HL := hide ((unhide HL).kept h2)
  replace HH := hide ((unhide HH).kept h2)
  replace HB := hide ((unhide HB).trans (h2.mono (unhide HB).size))
  clear h2
  have HSX := hide hx2
  have HST := hide ht2
  clear hx2 ht2 HCS
  obtain ⟨hl0, hl1, hl2⟩ := (unhide HL).three
  have hlt := (unhide HL).lt
  obtain ⟨hh0, hh1, hh2, hh3⟩ := (unhide HH).four
  have hht := (unhide HH).lt
  go_wp2_with fail
  clear hl0 hl1 hl2 hlt hh0 hh1 hh2 hh3 hht
  obtain ⟨wB, hwB⟩ : ∃ z, z = (w2.alloc (.cells #[.int .i64 xslot, .slice sa XH.length sb, .slice sc XW.length sd] 25)) := ⟨_, rfl⟩
  have hbn : Below w2.heap.size w2 wB := by rw [hwB]; exact (Below.refl _ _).alloc (Nat.le_refl _) _
  have HS : Hid (Bx wB (w2.heap.size) 25 #[.int .i64 xslot, .slice sa XH.length sb, .slice sc XW.length sd]) := by rw [hwB]; exact Bx.made _ _ _
  rw [← hwB]
  clear hwB
  replace HK := hide ((unhide HK).kept hbn)
  replace HL := hide ((unhide HL).kept hbn)
  replace HH := hide ((unhide HH).kept hbn)
  replace HSX := hide ((unhide HSX).kept hbn)
  replace HST := hide ((unhide HST).kept hbn)
  replace HB := hide ((unhide HB).trans (hbn.mono (unhide HB).size))
  clear hbn
  refine (unhide HCI _ (unhide HK)).mono ?_; rintro e w4 ⟨ta, tb, tc, td, tr, tt, rfl, hx4, ht4, h4⟩
  replace HK := hide ((unhide HK).kept h4)
  replace HL := hide ((unhide HL).kept h4)
  replace HH := hide ((unhide HH).kept h4)
  replace HSX := hide ((unhide HSX).kept h4)
  replace HST := hide ((unhide HST).kept h4)
  replace HS := hide ((unhide HS).kept h4)
  replace HB := hide ((unhide HB).trans (h4.mono (unhide HB).size))
  clear h4
  have HTX := hide hx4
  have HTT := hide ht4
  clear hx4 ht4 HCI
  obtain ⟨hl0, hl1, hl2⟩ := (unhide HL).three
  have hlt := (unhide HL).lt
  obtain ⟨hh0, hh1, hh2, hh3⟩ := (unhide HH).four
  have hht := (unhide HH).lt
  obtain ⟨hs0, hs1, hs2⟩ := (unhide HS).three
  have hst := (unhide HS).lt
  go_wp2_with fail
  clear hl0 hl1 hl2 hlt hh0 hh1 hh2 hh3 hht hs0 hs1 hs2 hst
  obtain ⟨wC, hwC⟩ : ∃ z, z = (w4.alloc (.cells #[.int .i64 xslot, .slice ta XH.length tb, .slice tc XW.length td] 25)) := ⟨_, rfl⟩
  have hbn : Below w4.heap.size w4 wC := by rw [hwC]; exact (Below.refl _ _).alloc (Nat.le_refl _) _
  have HT_ : Hid (Bx wC (w4.heap.size) 25 #[.int .i64 xslot, .slice ta XH.length tb, .slice tc XW.length td]) := by rw [hwC]; exact Bx.made _ _ _
  rw [← hwC]
  clear hwC
  replace HK := hide ((unhide HK).kept hbn)
  replace HL := hide ((unhide HL).kept hbn)
  replace HH := hide ((unhide HH).kept hbn)
  replace HSX := hide ((unhide HSX).kept hbn)
  replace HST := hide ((unhide HST).kept hbn)
  replace HS := hide ((unhide HS).kept hbn)
  replace HTX := hide ((unhide HTX).kept hbn)
  replace HTT := hide ((unhide HTT).kept hbn)
  replace HB := hide ((unhide HB).trans (hbn.mono (unhide HB).size))
  clear hbn
  refine (loLock_same ⟨xslot, XH, XW⟩ _ _ _ _ _ (unhide HTX) (unhide HSX)).mono ?_; rintro e w5 ⟨rfl, h5⟩
  replace HK := hide ((unhide HK).kept h5)
  replace HL := hide ((unhide HL).kept h5)
  replace HH := hide ((unhide HH).kept h5)
  replace HSX := hide ((unhide HSX).kept h5)
  replace HST := hide ((unhide HST).kept h5)
  replace HS := hide ((unhide HS).kept h5)
  replace HTX := hide ((unhide HTX).kept h5)
  replace HTT := hide ((unhide HTT).kept h5)
  replace HT_ := hide ((unhide HT_).kept h5)
  replace HB := hide ((unhide HB).trans (h5.mono (unhide HB).size))
  clear h5
  go_wp2_with fail
  refine (loHolds_same _ _ T _ (unhide HTT) (unhide HST)).mono ?_; rintro e w6 ⟨rfl, h6⟩
  replace HK := hide ((unhide HK).kept h6)
  replace HL := hide ((unhide HL).kept h6)
  replace HH := hide ((unhide HH).kept h6)
  replace HSX := hide ((unhide HSX).kept h6)
  replace HST := hide ((unhide HST).kept h6)
  replace HS := hide ((unhide HS).kept h6)
  replace HTX := hide ((unhide HTX).kept h6)
  replace HTT := hide ((unhide HTT).kept h6)
  replace HT_ := hide ((unhide HT_).kept h6)
  replace HB := hide ((unhide HB).trans (h6.mono (unhide HB).size))
  clear h6
  obtain ⟨hl0, hl1, hl2⟩ := (unhide HL).three
  have hlt := (unhide HL).lt
  go_wp2_with fail
  clear hl0 hl1 hl2 hlt
  refine (unhide HOS _ (unhide HK)).mono ?_; rintro e w7 ⟨rfl, h7⟩
  replace HK := hide ((unhide HK).kept h7)
  replace HL := hide ((unhide HL).kept h7)
  replace HH := hide ((unhide HH).kept h7)
  replace HSX := hide ((unhide HSX).kept h7)
  replace HST := hide ((unhide HST).kept h7)
  replace HS := hide ((unhide HS).kept h7)
  replace HTX := hide ((unhide HTX).kept h7)
  replace HTT := hide ((unhide HTT).kept h7)
  replace HT_ := hide ((unhide HT_).kept h7)
  replace HB := hide ((unhide HB).trans (h7.mono (unhide HB).size))
  clear h7
  clear HOS
  cases OK
  ·
    obtain ⟨ht_0, ht_1, ht_2⟩ := (unhide HT_).three
    have ht_t := (unhide HT_).lt
    obtain ⟨hs0, hs1, hs2⟩ := (unhide HS).three
    have hst := (unhide HS).lt
    go_wp2_with fail
    clear ht_0 ht_1 ht_2 ht_t hs0 hs1 hs2 hst
    refine (loLock_same ⟨xslot, XH, XW⟩ _ _ _ _ _ (unhide HTX) (unhide HSX)).mono ?_; rintro e w8 ⟨rfl, h5⟩
    replace HK := hide ((unhide HK).kept h5)
    replace HL := hide ((unhide HL).kept h5)
    replace HH := hide ((unhide HH).kept h5)
    replace HSX := hide ((unhide HSX).kept h5)
    replace HST := hide ((unhide HST).kept h5)
    replace HS := hide ((unhide HS).kept h5)
    replace HTX := hide ((unhide HTX).kept h5)
    replace HTT := hide ((unhide HTT).kept h5)
    replace HT_ := hide ((unhide HT_).kept h5)
    replace HB := hide ((unhide HB).trans (h5.mono (unhide HB).size))
    clear h5
    go_wp2_with fail
    refine (loHolds_same _ _ T _ (unhide HTT) (unhide HST)).mono ?_; rintro e w9 ⟨rfl, h6⟩
    replace HK := hide ((unhide HK).kept h6)
    replace HL := hide ((unhide HL).kept h6)
    replace HH := hide ((unhide HH).kept h6)
    replace HSX := hide ((unhide HSX).kept h6)
    replace HST := hide ((unhide HST).kept h6)
    replace HS := hide ((unhide HS).kept h6)
    replace HTX := hide ((unhide HTX).kept h6)
    replace HTT := hide ((unhide HTT).kept h6)
    replace HT_ := hide ((unhide HT_).kept h6)
    replace HB := hide ((unhide HB).trans (h6.mono (unhide HB).size))
    clear h6
    go_wp2_with fail
    go_ret
    exact ⟨rfl, unhide HB⟩
  ·
    by_cases cW : 0 < W.length
    case pos =>
      have cWI : (0 : Int) < (W.length : Int) := by omega
      have cWd : decide (0 < W.length) = true := by simpa using cW
      obtain ⟨ht_0, ht_1, ht_2⟩ := (unhide HT_).three
      have ht_t := (unhide HT_).lt
      obtain ⟨hs0, hs1, hs2⟩ := (unhide HS).three
      have hst := (unhide HS).lt
      obtain ⟨hl0, hl1, hl2⟩ := (unhide HL).three
      have hlt := (unhide HL).lt
      obtain ⟨hh0, hh1, hh2, hh3⟩ := (unhide HH).four
      have hht := (unhide HH).lt
      go_wp2_with fail
      clear ht_0 ht_1 ht_2 ht_t hs0 hs1 hs2 hst hl0 hl1 hl2 hlt hh0 hh1 hh2 hh3 hht
      refine (loLock_same ⟨xslot, XH, XW⟩ _ _ _ _ _ (unhide HTX) (unhide HSX)).mono ?_; rintro e w8 ⟨rfl, h5⟩
      replace HK := hide ((unhide HK).kept h5)
      replace HL := hide ((unhide HL).kept h5)
      replace HH := hide ((unhide HH).kept h5)
      replace HSX := hide ((unhide HSX).kept h5)
      replace HST := hide ((unhide HST).kept h5)
      replace HS := hide ((unhide HS).kept h5)
      replace HTX := hide ((unhide HTX).kept h5)
      replace HTT := hide ((unhide HTT).kept h5)
      replace HT_ := hide ((unhide HT_).kept h5)
      replace HB := hide ((unhide HB).trans (h5.mono (unhide HB).size))
      clear h5
      go_wp2_with fail
      refine (loHolds_same _ _ T _ (unhide HTT) (unhide HST)).mono ?_; rintro e w9 ⟨rfl, h6⟩
      replace HK := hide ((unhide HK).kept h6)
      replace HL := hide ((unhide HL).kept h6)
      replace HH := hide ((unhide HH).kept h6)
      replace HSX := hide ((unhide HSX).kept h6)
      replace HST := hide ((unhide HST).kept h6)
      replace HS := hide ((unhide HS).kept h6)
      replace HTX := hide ((unhide HTX).kept h6)
      replace HTT := hide ((unhide HTT).kept h6)
      replace HT_ := hide ((unhide HT_).kept h6)
      replace HB := hide ((unhide HB).trans (h6.mono (unhide HB).size))
      clear h6
      go_wp2_with fail
      go_ret
      exact ⟨rfl, unhide HB⟩
    have cWI : ¬ (0 : Int) < (W.length : Int) := by omega
    have cWd : decide (0 < W.length) = false := by simpa using cW
    cases xf
    case true =>
      obtain ⟨ht_0, ht_1, ht_2⟩ := (unhide HT_).three
      have ht_t := (unhide HT_).lt
      obtain ⟨hs0, hs1, hs2⟩ := (unhide HS).three
      have hst := (unhide HS).lt
      obtain ⟨hl0, hl1, hl2⟩ := (unhide HL).three
      have hlt := (unhide HL).lt
      obtain ⟨hh0, hh1, hh2, hh3⟩ := (unhide HH).four
      have hht := (unhide HH).lt
      go_wp2_with fail
      clear ht_0 ht_1 ht_2 ht_t hs0 hs1 hs2 hst hl0 hl1 hl2 hlt hh0 hh1 hh2 hh3 hht
      refine (loLock_same ⟨xslot, XH, XW⟩ _ _ _ _ _ (unhide HTX) (unhide HSX)).mono ?_; rintro e w8 ⟨rfl, h5⟩
      replace HK := hide ((unhide HK).kept h5)
      replace HL := hide ((unhide HL).kept h5)
      replace HH := hide ((unhide HH).kept h5)
      replace HSX := hide ((unhide HSX).kept h5)
      replace HST := hide ((unhide HST).kept h5)
      replace HS := hide ((unhide HS).kept h5)
      replace HTX := hide ((unhide HTX).kept h5)
      replace HTT := hide ((unhide HTT).kept h5)
      replace HT_ := hide ((unhide HT_).kept h5)
      replace HB := hide ((unhide HB).trans (h5.mono (unhide HB).size))
      clear h5
      go_wp2_with fail
      refine (loHolds_same _ _ T _ (unhide HTT) (unhide HST)).mono ?_; rintro e w9 ⟨rfl, h6⟩
      replace HK := hide ((unhide HK).kept h6)
      replace HL := hide ((unhide HL).kept h6)
      replace HH := hide ((unhide HH).kept h6)
      replace HSX := hide ((unhide HSX).kept h6)
      replace HST := hide ((unhide HST).kept h6)
      replace HS := hide ((unhide HS).kept h6)
      replace HTX := hide ((unhide HTX).kept h6)
      replace HTT := hide ((unhide HTT).kept h6)
      replace HT_ := hide ((unhide HT_).kept h6)
      replace HB := hide ((unhide HB).trans (h6.mono (unhide HB).size))
      clear h6
      go_wp2_with fail
      go_ret
      exact ⟨rfl, unhide HB⟩
    by_cases c227 : xs < 1
    case pos =>
      obtain ⟨ht_0, ht_1, ht_2⟩ := (unhide HT_).three
      have ht_t := (unhide HT_).lt
      obtain ⟨hs0, hs1, hs2⟩ := (unhide HS).three
      have hst := (unhide HS).lt
      obtain ⟨hl0, hl1, hl2⟩ := (unhide HL).three
      have hlt := (unhide HL).lt
      obtain ⟨hh0, hh1, hh2, hh3⟩ := (unhide HH).four
      have hht := (unhide HH).lt
      go_wp2_with fail
      clear ht_0 ht_1 ht_2 ht_t hs0 hs1 hs2 hst hl0 hl1 hl2 hlt hh0 hh1 hh2 hh3 hht
      refine (loLock_same ⟨xslot, XH, XW⟩ _ _ _ _ _ (unhide HTX) (unhide HSX)).mono ?_; rintro e w8 ⟨rfl, h5⟩
      replace HK := hide ((unhide HK).kept h5)
      replace HL := hide ((unhide HL).kept h5)
      replace HH := hide ((unhide HH).kept h5)
      replace HSX := hide ((unhide HSX).kept h5)
      replace HST := hide ((unhide HST).kept h5)
      replace HS := hide ((unhide HS).kept h5)
      replace HTX := hide ((unhide HTX).kept h5)
      replace HTT := hide ((unhide HTT).kept h5)
      replace HT_ := hide ((unhide HT_).kept h5)
      replace HB := hide ((unhide HB).trans (h5.mono (unhide HB).size))
      clear h5
      go_wp2_with fail
      refine (loHolds_same _ _ T _ (unhide HTT) (unhide HST)).mono ?_; rintro e w9 ⟨rfl, h6⟩
      replace HK := hide ((unhide HK).kept h6)
      replace HL := hide ((unhide HL).kept h6)
      replace HH := hide ((unhide HH).kept h6)
      replace HSX := hide ((unhide HSX).kept h6)
      replace HST := hide ((unhide HST).kept h6)
      replace HS := hide ((unhide HS).kept h6)
      replace HTX := hide ((unhide HTX).kept h6)
      replace HTT := hide ((unhide HTT).kept h6)
      replace HT_ := hide ((unhide HT_).kept h6)
      replace HB := hide ((unhide HB).trans (h6.mono (unhide HB).size))
      clear h6
      go_wp2_with fail
      go_ret
      exact ⟨rfl, unhide HB⟩
    by_cases c265 : 9999 < xs
    case pos =>
      obtain ⟨ht_0, ht_1, ht_2⟩ := (unhide HT_).three
      have ht_t := (unhide HT_).lt
      obtain ⟨hs0, hs1, hs2⟩ := (unhide HS).three
      have hst := (unhide HS).lt
      obtain ⟨hl0, hl1, hl2⟩ := (unhide HL).three
      have hlt := (unhide HL).lt
      obtain ⟨hh0, hh1, hh2, hh3⟩ := (unhide HH).four
      have hht := (unhide HH).lt
      go_wp2_with fail
      clear ht_0 ht_1 ht_2 ht_t hs0 hs1 hs2 hst hl0 hl1 hl2 hlt hh0 hh1 hh2 hh3 hht
      refine (loLock_same ⟨xslot, XH, XW⟩ _ _ _ _ _ (unhide HTX) (unhide HSX)).mono ?_; rintro e w8 ⟨rfl, h5⟩
      replace HK := hide ((unhide HK).kept h5)
      replace HL := hide ((unhide HL).kept h5)
      replace HH := hide ((unhide HH).kept h5)
      replace HSX := hide ((unhide HSX).kept h5)
      replace HST := hide ((unhide HST).kept h5)
      replace HS := hide ((unhide HS).kept h5)
      replace HTX := hide ((unhide HTX).kept h5)
      replace HTT := hide ((unhide HTT).kept h5)
      replace HT_ := hide ((unhide HT_).kept h5)
      replace HB := hide ((unhide HB).trans (h5.mono (unhide HB).size))
      clear h5
      go_wp2_with fail
      refine (loHolds_same _ _ T _ (unhide HTT) (unhide HST)).mono ?_; rintro e w9 ⟨rfl, h6⟩
      replace HK := hide ((unhide HK).kept h6)
      replace HL := hide ((unhide HL).kept h6)
      replace HH := hide ((unhide HH).kept h6)
      replace HSX := hide ((unhide HSX).kept h6)
      replace HST := hide ((unhide HST).kept h6)
      replace HS := hide ((unhide HS).kept h6)
      replace HTX := hide ((unhide HTX).kept h6)
      replace HTT := hide ((unhide HTT).kept h6)
      replace HT_ := hide ((unhide HT_).kept h6)
      replace HB := hide ((unhide HB).trans (h6.mono (unhide HB).size))
      clear h6
      go_wp2_with fail
      go_ret
      exact ⟨rfl, unhide HB⟩
    by_cases c303 : xt < 1
    case pos =>
      obtain ⟨ht_0, ht_1, ht_2⟩ := (unhide HT_).three
      have ht_t := (unhide HT_).lt
      obtain ⟨hs0, hs1, hs2⟩ := (unhide HS).three
      have hst := (unhide HS).lt
      obtain ⟨hl0, hl1, hl2⟩ := (unhide HL).three
      have hlt := (unhide HL).lt
      obtain ⟨hh0, hh1, hh2, hh3⟩ := (unhide HH).four
      have hht := (unhide HH).lt
      go_wp2_with fail
      clear ht_0 ht_1 ht_2 ht_t hs0 hs1 hs2 hst hl0 hl1 hl2 hlt hh0 hh1 hh2 hh3 hht
      refine (loLock_same ⟨xslot, XH, XW⟩ _ _ _ _ _ (unhide HTX) (unhide HSX)).mono ?_; rintro e w8 ⟨rfl, h5⟩
      replace HK := hide ((unhide HK).kept h5)
      replace HL := hide ((unhide HL).kept h5)
      replace HH := hide ((unhide HH).kept h5)
      replace HSX := hide ((unhide HSX).kept h5)
      replace HST := hide ((unhide HST).kept h5)
      replace HS := hide ((unhide HS).kept h5)
      replace HTX := hide ((unhide HTX).kept h5)
      replace HTT := hide ((unhide HTT).kept h5)
      replace HT_ := hide ((unhide HT_).kept h5)
      replace HB := hide ((unhide HB).trans (h5.mono (unhide HB).size))
      clear h5
      go_wp2_with fail
      refine (loHolds_same _ _ T _ (unhide HTT) (unhide HST)).mono ?_; rintro e w9 ⟨rfl, h6⟩
      replace HK := hide ((unhide HK).kept h6)
      replace HL := hide ((unhide HL).kept h6)
      replace HH := hide ((unhide HH).kept h6)
      replace HSX := hide ((unhide HSX).kept h6)
      replace HST := hide ((unhide HST).kept h6)
      replace HS := hide ((unhide HS).kept h6)
      replace HTX := hide ((unhide HTX).kept h6)
      replace HTT := hide ((unhide HTT).kept h6)
      replace HT_ := hide ((unhide HT_).kept h6)
      replace HB := hide ((unhide HB).trans (h6.mono (unhide HB).size))
      clear h6
      go_wp2_with fail
      go_ret
      exact ⟨rfl, unhide HB⟩
    by_cases c16 : (16 : Int) ≤ (H.length : Int)
    case pos =>
      obtain ⟨ht_0, ht_1, ht_2⟩ := (unhide HT_).three
      have ht_t := (unhide HT_).lt
      obtain ⟨hs0, hs1, hs2⟩ := (unhide HS).three
      have hst := (unhide HS).lt
      obtain ⟨hl0, hl1, hl2⟩ := (unhide HL).three
      have hlt := (unhide HL).lt
      obtain ⟨hh0, hh1, hh2, hh3⟩ := (unhide HH).four
      have hht := (unhide HH).lt
      go_wp2_with fail
      clear ht_0 ht_1 ht_2 ht_t hs0 hs1 hs2 hst hl0 hl1 hl2 hlt hh0 hh1 hh2 hh3 hht
      refine (loLock_same ⟨xslot, XH, XW⟩ _ _ _ _ _ (unhide HTX) (unhide HSX)).mono ?_; rintro e w8 ⟨rfl, h5⟩
      replace HK := hide ((unhide HK).kept h5)
      replace HL := hide ((unhide HL).kept h5)
      replace HH := hide ((unhide HH).kept h5)
      replace HSX := hide ((unhide HSX).kept h5)
      replace HST := hide ((unhide HST).kept h5)
      replace HS := hide ((unhide HS).kept h5)
      replace HTX := hide ((unhide HTX).kept h5)
      replace HTT := hide ((unhide HTT).kept h5)
      replace HT_ := hide ((unhide HT_).kept h5)
      replace HB := hide ((unhide HB).trans (h5.mono (unhide HB).size))
      clear h5
      go_wp2_with fail
      refine (loHolds_same _ _ T _ (unhide HTT) (unhide HST)).mono ?_; rintro e w9 ⟨rfl, h6⟩
      replace HK := hide ((unhide HK).kept h6)
      replace HL := hide ((unhide HL).kept h6)
      replace HH := hide ((unhide HH).kept h6)
      replace HSX := hide ((unhide HSX).kept h6)
      replace HST := hide ((unhide HST).kept h6)
      replace HS := hide ((unhide HS).kept h6)
      replace HTX := hide ((unhide HTX).kept h6)
      replace HTT := hide ((unhide HTT).kept h6)
      replace HT_ := hide ((unhide HT_).kept h6)
      replace HB := hide ((unhide HB).trans (h6.mono (unhide HB).size))
      clear h6
      go_wp2_with fail
      go_ret
      exact ⟨rfl, unhide HB⟩
    have HM2 := hide (unhide HM (by first | rfl | trivial) (by first | rfl | trivial) (by omega) (by omega) (by omega) (unhide HXT) (by omega) (by omega))
    obtain ⟨hl0, hl1, hl2⟩ := (unhide HL).three
    have hlt := (unhide HL).lt
    obtain ⟨hh0, hh1, hh2, hh3⟩ := (unhide HH).four
    have hht := (unhide HH).lt
    go_wp2_with fail
    clear hl0 hl1 hl2 hlt hh0 hh1 hh2 hh3 hht
    clear HM HSX HST HS HTX HTT HOI HOX
    generalize hN : H.length = N at *
    have HN := hide hN
    clear hN
    go_loopw [11] (fun i wr => ∃ k : Nat, k ≤ N ∧ i = .int .i64 k ∧ Below w7.heap.size w7 wr ∧ ∀ j, j < k → (H.getD j Hd.z).share = true ∧ (H.getD j Hd.z).stamp ≠ xs) (fun i _ => N - (intOf i).toNat)
    case atStart => exact ⟨0, Nat.zero_le _, rfl, Below.refl _ _, fun j hj => by omega⟩
    case round =>
      obtain ⟨k, hk, rfl, hb, hall⟩ := hrel
      have HALL := hide hall
      obtain ⟨t0, t1, t2⟩ := ((unhide HL).kept hb).three
      obtain ⟨r0, r1, r2, r3⟩ := ((unhide HH).kept hb).four
      have HBR := hide hb
      clear hb hall
      by_cases hlt : k < N
      ·
        obtain ⟨bt, ot, rfl⟩ := ((unhide HK).held).some_of (by rw [unhide HN]; omega)
        obtain ⟨d0, d1, d2, d3⟩ := hd_cells (((unhide HK).held).kept (unhide HBR)) (i := k) (by rw [unhide HN]; exact hlt)
        generalize hx : H.getD k Hd.z = x at *
        have HX := hide hx
        clear hx
        have ia : (k : Int) < (N : Int) := by omega
        have ib : (0 : Int) ≤ (k : Int) := by omega
        cases hfx : x.share
        case false =>
          rw [hfx] at d2
          go_wp2_with fail
          go_quiet (fail)
          go_wp2_with fail
          go_ret
          exact ⟨rfl, (unhide HB).trans ((below_drewN (unhide HBR) _).mono (unhide HB).size)⟩
        rw [hfx] at d2
        by_cases hle2 : x.stamp = xs
        · have hdc : (x.stamp == xs) = true := by simpa using hle2
          clear hle2
          go_wp2_with fail
          go_quiet (fail)
          go_wp2_with fail
          go_ret
          exact ⟨rfl, (unhide HB).trans ((below_drewN (unhide HBR) _).mono (unhide HB).size)⟩
        · have hdc : (x.stamp == xs) = false := by simpa using hle2
          have HFX : Hid (x.share = true ∧ x.stamp ≠ xs) := ⟨hfx, hle2⟩
          clear hfx hle2
          go_wp2_with fail
          go_quiet (fail)
          go_wp2_with fail
          go_roundw
          case rel =>
            refine ⟨k + 1, hlt, by go_num, below_drewN (unhide HBR) _, fun j hj => ?_⟩
            by_cases hjk : j = k
            · rw [hjk, unhide HX]; exact unhide HFX
            · exact unhide HALL j (by omega)
          case measure => simp [intOf]; omega
      ·
        obtain rfl : k = N := by omega
        obtain ⟨hC, hT0, hL1⟩ := unhide HM2 (unhide HALL)
        obtain ⟨y0, y1, y2⟩ := ((unhide HT_).kept (unhide HBR)).three
        subst hC
        rw [hL1] at y1
        rw [hT0]
        have hwk : IntKind.i64.wrap ((k : Int) + 1) = (k : Int) + 1 := by rw [IntKind.wrap_i64]; omega
        have hkk : (((k + 1 : Nat) : Int) == (k : Int) + 1) = true := by simp
        clear hL1 hT0
        go_wp2_with fail
        go_ret
        exact ⟨rfl, (unhide HB).trans ((unhide HBR).mono (unhide HB).size)⟩

end Go.Proofs.Ytoojnhodjkpecaa
