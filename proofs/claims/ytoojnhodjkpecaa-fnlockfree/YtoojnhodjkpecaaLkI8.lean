/- The program's lock without a stamp's tries. -/
import Derived.Test.YtoojnhodjkpecaaLkI7
import Derived.Test.YtoojnhodjkpecaaLkN
namespace Go.Proofs.Ytoojnhodjkpecaa
open Go.RowKit Go.Shelf

def goesB (s t : Int) (h : Hd) : Bool := (h.stamp == s) && decide (h.try_ ≤ t)
theorem goes_keep (s t : Int) (h : Hd) : goesB s t h = !keepB s t h := by
  unfold goesB keepB
  by_cases h1 : h.stamp = s
  · have e1 : (h.stamp == s) = true := by simpa using h1
    have e2 : (h.stamp != s) = false := by simpa using h1
    rw [e1, e2]
    by_cases h2 : t < h.try_
    · have : ¬ h.try_ ≤ t := by omega
      simp [h2, this]
    · have : h.try_ ≤ t := by omega
      simp [h2, this]
  · have e1 : (h.stamp == s) = false := by simpa using h1
    have e2 : (h.stamp != s) = true := by simpa using h1
    rw [e1, e2]; rfl
theorem stay_goes (s t : Int) (hs : List Hd) : stayL (goesB s t) hs = withoutL hs s t := by
  unfold stayL withoutL
  congr 1
  funext x
  rw [goes_keep]; simp

set_option maxHeartbeats 1000000 in
theorem goes_any (s t : Int) (h : Hd) (g : Nat) (w : World) (h1 : w.cell? ⟨g, 0, none⟩ = some (.int .i64 s)) (h2 : w.cell? ⟨g + 1, 0, none⟩ = some (.int .i64 t)) :
    Calls Try.prog 66 #[.agg #[.int .i64 h.stamp, .int .i64 h.try_, .bool h.share, .bool h.firm], .pointer (some ⟨g, 0, none⟩), .pointer (some ⟨g + 1, 0, none⟩)] w fun e w' => e = .returned (.bool (goesB s t h)) ∧ Below w.heap.size w w' := by
  obtain ⟨hs, ht, hsh, hf⟩ := h
  have hfin : goesB s t ⟨hs, ht, hsh, hf⟩ = ((hs == s) && decide (ht ≤ t)) := rfl
  have HF := hide hfin
  have l1 := lt_of_cell h1
  have l2 := lt_of_cell h2
  simp only at l1 l2
  clear hfin
  cases t1 : (hs == s)
  · go_enter Try.func66, Try.ntmps66
    go_wp2_with fail
    go_ret
    exact ⟨ret_bool (by rw [unhide HF, t1]; rfl), (Below.refl _ _).alloc (Nat.le_refl _) _⟩
  by_cases t2 : ht ≤ t
  all_goals
    go_enter Try.func66, Try.ntmps66
    go_wp2_with fail
    go_ret
    exact ⟨ret_bool (by rw [unhide HF, t1]; simp [t2]), (Below.refl _ _).alloc (Nat.le_refl _) _⟩

def withoutK (l : Lk) (s t : Int) : Lk := ⟨l.slot, withoutL l.held s t, withoutL l.waits s t⟩

set_option maxRecDepth 100000 in
set_option maxHeartbeats 2000000 in
theorem withoutI_any (l : Lk) (a b : Value) (s t : Int) (w : World) (hv : LkAt w l a b) (hn : l.held.length ≤ 1000) (hm : l.waits.length ≤ 1000) :
    Calls Try.prog 52 #[lkV l a b, .int .i64 s, .int .i64 t] w fun e w' => ∃ a' b', e = .returned (lkV (withoutK l s t) a' b') ∧ OwnLk w' w.heap.size (withoutK l s t) a' b' ∧ Below w.heap.size w w' := by
  obtain ⟨slot, H, W⟩ := l
  obtain ⟨hvh, hvw⟩ := hv
  simp only [lkV, withoutK] at *
  obtain ⟨ah, ch, rfl, -⟩ := hvh.shape
  obtain ⟨aw, cw, rfl, -⟩ := hvw.shape
  have HH := hide hvh
  have HW := hide hvw
  clear hvh hvw
  obtain ⟨x0, hx0⟩ : ∃ x0, x0 = (((w.alloc (.cells #[.int .i64 slot, .slice ah H.length ch, .slice aw W.length cw] 25)).alloc (.cells #[.int .i64 s] 3)).alloc (.cells #[.int .i64 t] 3)).alloc (.cells #[.int .i64 0, .slice none 0 0, .slice none 0 0] 25) := ⟨_, rfl⟩
  have HB0 : Hid (Below w.heap.size w x0) := by rw [hx0]; exact ((((Below.refl _ _).alloc (Nat.le_refl _) _).alloc (by simp) _).alloc (by simp; omega) _).alloc (by simp; omega) _
  have HX0 : Hid (Bx x0 w.heap.size 25 #[.int .i64 slot, .slice ah H.length ch, .slice aw W.length cw]) := by rw [hx0]; exact (((Bx.made w _ _).allocK).allocK).allocK
  have HS0 : Hid (Bx x0 (w.heap.size + 1) 3 #[.int .i64 s]) := by rw [hx0]; exact (Bx.made2 w _ _ _ rfl).allocK
  have HT0 : Hid (Bx x0 (w.heap.size + 1 + 1) 3 #[.int .i64 t]) := by rw [hx0]; exact (Bx.made3 w _ _ _ rfl).allocK
  have HR0 : Hid (Bx x0 (w.heap.size + 1 + 1 + 1) 25 #[.int .i64 0, .slice none 0 0, .slice none 0 0]) := by
    rw [hx0]
    have := Bx.made (((w.alloc (.cells #[.int .i64 slot, .slice ah H.length ch, .slice aw W.length cw] 25)).alloc (.cells #[.int .i64 s] 3)).alloc (.cells #[.int .i64 t] 3)) 25 #[.int .i64 0, .slice none 0 0, .slice none 0 0]
    rwa [show (((w.alloc (.cells #[.int .i64 slot, .slice ah H.length ch, .slice aw W.length cw] 25)).alloc (.cells #[.int .i64 s] 3)).alloc (.cells #[.int .i64 t] 3)).heap.size = w.heap.size + 1 + 1 + 1 by simp] at this
  have HE0 := hide hx0
  clear hx0
  have hent : ∀ args w, (callFunc 66 args).run Try.prog w = .ok (.enter 66 args) w := enters_of Try.func66 (by kernel_rfl) rfl
  have HPT : Hid (∀ (ww : World), Bx ww (w.heap.size + 1) 3 #[.int .i64 s] → Bx ww (w.heap.size + 1 + 1) 3 #[.int .i64 t] → ∀ (v : Value) (hs : List Hd), RowAt hdE ww v hs → hs.length ≤ 1000 → Calls Try.prog 67 #[v, .func (.func 66) #[] #[.pointer (some ⟨w.heap.size + 1, 0, none⟩), .pointer (some ⟨w.heap.size + 1 + 1, 0, none⟩)]] ww fun e w' => ∃ r1 r2, e = .returned (.tuple #[r1, r2]) ∧ w'.ownsRow ww.heap.size 27 4 r1 (withoutL hs s t).length ((withoutL hs s t).flatMap hdE) ∧ Below ww.heap.size ww w') := by
    intro ww k1 k2 v hs hv hm
    refine (partedC_any 66 _ _ (goesB s t) ww hent (fun x wz hb => goes_any s t x (w.heap.size + 1) wz ((k1.kept hb).cell 0) ((k2.kept hb).cell 0)) v hs hv hm).mono ?_
    rintro e w' ⟨r1, r2, rfl, h1, -, -, h4⟩
    rw [stay_goes] at h1
    exact ⟨r1, r2, rfl, h1, h4⟩
  clear hent
  go_enter Try.func52, Try.ntmps52
  go_wp2_with fail
  rw [← unhide HE0]
  obtain ⟨q0, q1, q2⟩ := (unhide HX0).three
  refine (unhide HPT _ (unhide HS0) (unhide HT0) _ H ((unhide HH).kept (unhide HB0)) hn).mono ?_
  rintro e w1 ⟨r1, r2, rfl, ho1, hb1⟩
  have HX1 := hide ((unhide HX0).kept hb1)
  have HS1 := hide ((unhide HS0).kept hb1)
  have HT1 := hide ((unhide HT0).kept hb1)
  have HR1 := hide ((unhide HR0).kept hb1)
  have HB1 := hide ((unhide HB0).trans (hb1.mono (unhide HB0).size))
  have HO1 := hide ho1
  obtain ⟨a1, c1, rfl, -⟩ := ownsRow_slice ho1
  have z1 := hb1.size
  have lr0 := (unhide HR0).lt
  clear ho1 hb1 q0 q1 q2 HX0 HS0 HT0 HR0 HE0
  obtain ⟨q0, q1, q2⟩ := (unhide HX1).three
  go_wp2_with fail
  refine (unhide HPT _ (unhide HS1) (unhide HT1) _ W ((unhide HW).kept (unhide HB1)) hm).mono ?_
  rintro e w2 ⟨r3, r4, rfl, ho2, hb2⟩
  have HX2 := hide ((unhide HX1).kept hb2)
  have HR2 := hide ((unhide HR1).kept hb2)
  have HB2 := hide ((unhide HB1).trans (hb2.mono (unhide HB1).size))
  have HA2 := hide (ownsRow_below (unhide HO1) hb2)
  have HO2 := hide ho2
  obtain ⟨a2, c2, rfl, -⟩ := ownsRow_slice ho2
  have z2 := hb2.size
  have HNE : Hid ((Value.slice a1 (withoutL H s t).length c1).ownBlock = none ∨ (Value.slice a1 (withoutL H s t).length c1).ownBlock ≠ (Value.slice a2 (withoutL W s t).length c2).ownBlock) := by
    cases hq : (Value.slice a1 (withoutL H s t).length c1).ownBlock with
    | none => exact .inl rfl
    | some q =>
      right; intro e
      have h1 := ((unhide HO1).lt q hq).2
      have h2 := ((unhide HO2).lt q e.symm).1
      omega
  clear ho2 hb2 q0 q1 q2 HX1 HS1 HT1 HR1 HO1
  obtain ⟨q0, q1, q2⟩ := (unhide HX2).three
  obtain ⟨r0, r1, r2'⟩ := (unhide HR2).three
  obtain ⟨f0, f1, f2⟩ := (unhide HR2).free3
  go_wp2_with fail
  refine bodyPost_ret (results_cell_row rfl _ _ (w.heap.size + 1 + 1 + 1) _ _ _ _ rfl ((((unhide HR2).setC 0 (.int .i64 slot)).setC 1 (.slice a1 (withoutL H s t).length c1)).setC 2 (.slice a2 (withoutL W s t).length c2)).row Try.underlying25 rfl (by kernel_rfl)) rfl ?_
  have hO : OwnLk w2 x0.heap.size ⟨slot, withoutL H s t, withoutL W s t⟩ (.slice a1 (withoutL H s t).length c1) (.slice a2 (withoutL W s t).length c2) := ⟨unhide HA2, ownsRow_base (unhide HO2) z1, unhide HNE⟩
  exact ⟨_, _, ret_val (by simp), (((hO.set lr0 _ _).set lr0 _ _).set lr0 _ _).low (unhide HB0).size, (((unhide HB2).setCell (by simp; omega) _).setCell (by simp; omega) _).setCell (by simp; omega) _⟩

end Go.Proofs.Ytoojnhodjkpecaa
