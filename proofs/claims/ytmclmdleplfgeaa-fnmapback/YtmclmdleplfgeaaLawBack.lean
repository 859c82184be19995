/- The law FnMapBack answers true at every code. -/
import Derived.Test.YtmclmdleplfgeaaLawTurn
namespace Go.Proofs.Ytmclmdleplfgeaa
open Go.RowKit

theorem set_back {xs : List Int} {S : Nat} {t : Int} : (xs.set S t).set S (xs.getD S 0) = xs := by
  rw [List.set_set]
  apply List.ext_getElem?
  intro i
  by_cases h : S = i
  · subst h
    by_cases hl : S < xs.length
    · simp [List.getD, hl]
    · rw [List.getElem?_eq_none (by simpa using hl), List.getElem?_eq_none (by omega)]
  · rw [List.getElem?_set_ne h]

theorem Box.drewK {w : World} {g : Nat} {T : TypeId} {cs : Array Value} (h : Box w g T cs) : Box w.drew g T cs := ⟨h.row⟩
theorem Box.allocK {w : World} {g : Nat} {T : TypeId} {cs : Array Value} {o : Obj} (h : Box w g T cs) : Box (w.alloc o) g T cs := h.alloc o
theorem InsAt.drewK {w : World} {v : Value} {xs : List Int} (h : InsAt w v xs) : InsAt w.drew v xs := h.kept ((Below.refl _ _).drew)
theorem InsAt.allocK {w : World} {v : Value} {xs : List Int} {o : Obj} (h : InsAt w v xs) : InsAt (w.alloc o) v xs := h.kept ((Below.refl _ _).alloc (Nat.le_refl _) _)
theorem BelowAD {w w' : World} {B : Nat} {o : Obj} (h : Below B w w') (hB : B ≤ w'.heap.size) : Below B w (w'.alloc o).drew := (h.alloc hB o).drew

/-- Moved back: over, or as it was. -/
theorem move_back {V : Int} {L : List Int} {S : Nat} {t : Int} (hm : mapOk V L = true) (hc : moveCode V L S t = 0) :
    moveC (V + 1) (L.set S t) S (L.getD S 0) = 2 ∨ (moveC (V + 1) (L.set S t) S (L.getD S 0) = 0 ∧ moveV (V + 1) (L.set S t) S (L.getD S 0) = V + 2 ∧ moveL (V + 1) (L.set S t) S (L.getD S 0) = L) := by
  obtain ⟨hs, ht, hv⟩ := move_done hc
  obtain ⟨_, e2, e3⟩ := moveC_done hm hc
  have hokM := mapOk_move hm (S : Int) t
  rw [e2, e3, Int.toNat_natCast] at hokM
  obtain ⟨s1, s2⟩ := slB_bounds hs
  have hl := mapOk_len hm
  have hS : S < L.length := by omega
  have ho : hsB (L.getD S 0) = true := List.all_eq_true.1 (mapOk_all hm) _ (by simp [List.getD, hS])
  by_cases h9 : V + 1 = 99
  · left
    rw [moveC, if_pos hokM]; exact code_2 hs ho h9
  · right
    have hne : (L.set S t).getD (S : Int).toNat 0 ≠ L.getD S 0 := by
      rw [Int.toNat_natCast]
      simp only [List.getD, List.getElem?_set_self hS, Option.getD_some]
      intro e
      rw [code_3 hs ht hv (by rw [Int.toNat_natCast]; simpa [List.getD] using e.symm)] at hc
      simp at hc
    obtain ⟨d1, d2, d3⟩ := moveC_done hokM (code_0 hs ho h9 hne)
    refine ⟨d1, by rw [d2]; omega, ?_⟩
    rw [d3, Int.toNat_natCast]; exact set_back

theorem Box.set2 {w : World} {g : Nat} {T : TypeId} {u v : Value} (h : Box w g T #[u, v]) (x y : Value) : Box ((w.setCell ⟨g, 0, none⟩ x).setCell ⟨g, 1, none⟩ y) g T #[x, y] :=
  ⟨by rw [heap_setCell_same _ _ _ _ _ _ (heap_setCell_same _ _ _ _ _ _ h.row)]; rfl⟩
theorem cell_alloc_kept {w : World} {a : Addr} {v : Value} (o : Obj) (h : w.cell? a = some v) : (w.alloc o).cell? a = some v := cell_kept ((Below.refl _ _).alloc (Nat.le_refl _) o) h

set_option maxRecDepth 100000 in
set_option maxHeartbeats 8000000 in
theorem lawBack_any (v : Value) (n : Nat) (w : World) (hv : BytesAt w v n) :
    Calls Try.prog 5 #[v] w fun e w' => e = .returned (.bool true) ∧ Below w.heap.size w w' := by
  have HV := hide hv
  obtain ⟨a0, cap0, rfl, h1, h2, -⟩ := hv
  unfold maxLen at h2
  by_cases hn : 1048576 < (n : Int)
  · go_enter Try.func5, Try.ntmps5
    go_wp2_with fail
    go_ret
    exact ⟨rfl, Below.refl _ _⟩
  go_enter Try.func5, Try.ntmps5
  go_wp2_with fail
  refine (drawMapMove_any _ n _ (unhide HV)).mono ?_; rintro e w1 ⟨V, a, m, c, L, s, t, rfl, hi1, hl1, hV1, hV2, hs1, hs2, ht1, ht2, b1⟩
  have bM : Below w1.heap.size w1 (w1.alloc (.cells #[.int .i64 V, .slice a m c] 25)) := (Below.refl _ _).alloc (Nat.le_refl _) _
  have HX1 := hide (Box.made w1 25 #[.int .i64 V, .slice a m c])
  have HI1 := hide (hi1.kept bM)
  have HB1 := hide (b1.trans (bM.mono b1.size))
  clear hi1 b1 bM HV h1 h2
  have hspec := fun w h => specMove_any V (.slice a m c) L s t w h
  have himpl := fun w h => implMove_any V (.slice a m c) L s t w h
  generalize hmv : moveV V L s t = MV at *
  generalize hmc : moveC V L s t = MC at *
  generalize hml : moveL V L s t = ML at *
  have HSP := hide hspec
  have HIM := hide himpl
  have EMV := hide hmv
  have EMC := hide hmc
  have EML := hide hml
  have hee := eqMapB_self MV ML
  have hcc : (MC != MC) = false := by simp
  clear hspec himpl hmv hmc hml
  go_wp2_with fail
  refine (unhide HSP _ (unhide HI1)).mono ?_; rintro e w2 ⟨r2, rfl, ho2, hb2⟩
  obtain ⟨a2, c2, rfl, -⟩ := ownsRow_slice ho2
  have bW : Below w2.heap.size w2 (w2.alloc (.cells #[.int .i64 MV, .slice a2 ML.length c2] 25)) := (Below.refl _ _).alloc (Nat.le_refl _) _
  have HW2 := hide (Box.made w2 25 #[.int .i64 MV, .slice a2 ML.length c2])
  have HX2 := hide (((unhide HX1).kept hb2).kept bW)
  have HI2 := hide (((unhide HI1).kept hb2).kept bW)
  have HJ2 := hide ((owned_ins ho2).1.kept bW)
  have HB2 := hide (((unhide HB1).trans (hb2.mono (unhide HB1).size)).trans (bW.mono (by have := (unhide HB1).size; have := hb2.size; omega)))
  have lg2 := ((unhide HX1).kept hb2).lt
  clear ho2 hb2 bW HX1 HI1
  obtain ⟨p0, p1⟩ := (unhide HX2).two
  go_wp2_with fail
  refine (unhide HIM _ (unhide HI2)).mono ?_; rintro e w4 ⟨r4, rfl, hi4, ho4, hb4⟩
  obtain ⟨a4, c4, rfl⟩ := ho4.slice
  have bG : Below w4.heap.size w4 (w4.alloc (.cells #[.int .i64 MV, .slice a4 ML.length c4] 25)) := (Below.refl _ _).alloc (Nat.le_refl _) _
  have HG4 := hide (Box.made w4 25 #[.int .i64 MV, .slice a4 ML.length c4])
  have lw := ((unhide HW2).kept hb4).lt
  have lx := ((unhide HX2).kept hb4).lt
  have HW4 := hide (((unhide HW2).kept hb4).kept bG)
  have HX4 := hide (((unhide HX2).kept hb4).kept bG)
  have HI4 := hide (((unhide HI2).kept hb4).kept bG)
  have HJ4 := hide (((unhide HJ2).kept hb4).kept bG)
  have HK4 := hide (hi4.kept bG)
  have HB4 := hide (((unhide HB2).trans (hb4.mono (unhide HB2).size)).trans (bG.mono (by have := (unhide HB2).size; have := hb4.size; omega)))
  clear p0 p1 hi4 ho4 hb4 bG HW2 HX2 HI2 HJ2
  obtain ⟨p0, p1⟩ := (unhide HW4).two
  go_wp2_with fail
  refine (loMap_any MV MV _ _ ML ML _ (unhide HK4) (unhide HJ4)).mono ?_; rintro e w5 ⟨rfl, hb5⟩
  have HG5 := hide ((unhide HG4).kept hb5)
  have HX5 := hide ((unhide HX4).kept hb5)
  have HI5 := hide ((unhide HI4).kept hb5)
  have HK5 := hide ((unhide HK4).kept hb5)
  have HB5 := hide ((unhide HB4).trans (hb5.mono (unhide HB4).size))
  have HWK := hide ((unhide HW4).kept hb5)
  have HJK := hide ((unhide HJ4).kept hb5)
  clear p0 p1 hb5 HW4 HG4 HX4 HI4 HJ4 HK4
  obtain ⟨g0, g1⟩ := (unhide HG5).two
  obtain ⟨x0, x1'⟩ := (unhide HX5).two
  by_cases hz : MC = 0
  case neg =>
    have hzb : (MC != 0) = true := by simpa using hz
    have hzc : (MC == MC) = true := by simp
    clear hz
    have HW5 := hide (unhide HWK)
    obtain ⟨y0, y1⟩ := (unhide HW5).two
    go_wp2_with fail
    refine (loMap_any MV MV _ _ ML ML _ (unhide HK5) (unhide HJK)).mono ?_; rintro e w6 ⟨rfl, hb6⟩
    go_wp2_with fail
    go_ret
    exact ⟨rfl, (unhide HB5).trans (hb6.mono (unhide HB5).size)⟩
  have hm : mapOk V L = true := by
    cases hm : mapOk V L with
    | true => rfl
    | false => have := (moveC_bad s t hm).1; rw [unhide EMC, hz] at this; simp at this
  have hc : moveCode V L s t = 0 := by
    by_cases h : moveCode V L s t = 0
    · exact h
    · have := (moveC_ok hm h).1; rw [unhide EMC, hz] at this; exact absurd this.symm h
  obtain ⟨hss, -, -⟩ := move_done hc
  obtain ⟨sb1, sb2⟩ := slB_bounds hss
  obtain ⟨e1, e2, e3⟩ := moveC_done hm hc
  obtain ⟨vb1, vb2⟩ := mapOk_ver hm
  have hlen := mapOk_len hm
  obtain ⟨S, rfl⟩ := Int.eq_ofNat_of_zero_le sb1
  have hback := move_back hm hc
  rw [unhide EMV] at e2
  rw [unhide EML, Int.toNat_natCast] at e3
  rw [← e2, ← e3] at hback
  have himp := fun w h => implMove_any MV (.slice a4 ML.length c4) ML S (L.getD S 0) w h
  have hMVV : V + 2 = MV + 1 := by omega
  obtain ⟨rfl, b, off, rfl, hc0⟩ := (unhide HI5).cells (by intro e; rw [e] at hlen; simp at hlen)
  have c0 := hc0 S (by omega)
  generalize L.getD S 0 = o at *
  generalize moveV MV ML S o = V6 at *
  generalize moveC MV ML S o = C6 at *
  generalize moveL MV ML S o = L6 at *
  have HBK := hide hback
  have HIM6 := hide himp
  have hSi : (S : Int) < (L.length : Int) := by omega
  have hSn : S < L.length := by omega
  have HLEN := hide hlen
  have HMVV := hide hMVV
  clear hlen hMVV
  have hzb : (MC != 0) = false := by simpa using hz
  have hii := eqIns_self L
  clear hz hm hc hss e1 e2 e3 hback himp hc0
  go_wp2_with fail
  have hx5 := unhide HX5
  have hk5 := unhide HK5
  have hi5 := unhide HI5
  have hb5 := unhide HB5
  have hz5 := hb5.size
  have lb5 : b < w5.heap.size := lt_of_cell c0
  have lx5 : w1.heap.size < w5.heap.size := hx5.lt
  have lg5 : w4.heap.size < w5.heap.size := (unhide HG5).lt
  have HK5' := hide hk5
  have hS0 : (0 : Int) ≤ (S : Int) := by omega
  clear hk5 hi5 hb5 hx5
  go_region_held3 (fun w' => w'.cell? ⟨w4.heap.size, 0, none⟩ = some (.int .i64 MV) ∧ w'.cell? ⟨w4.heap.size, 1, none⟩ = some (.slice a4 ML.length c4) ∧ w'.cell? ⟨w1.heap.size, 1, none⟩ = some (.slice (some ⟨b, off, none⟩) L.length c) ∧ w'.cell? ⟨b, off + S, none⟩ = some (.int .i64 o))
    (first | ((try dsimp only); (try go_split_ands); (repeat' apply And.intro); all_goals (first | assumption | (refine cell_kept hb6 ?_; first | assumption | (refine cell_alloc_kept _ ?_; assumption)) | (refine cell_alloc_kept _ ?_; first | assumption | (refine cell_kept hb6 ?_; first | assumption | (refine cell_alloc_kept _ ?_; assumption))) | (refine (cell_set_far (.inl (by omega))).trans ?_; refine (cell_set_far (.inl (by omega))).trans ?_; first | assumption | (refine cell_kept hb6 ?_; first | assumption | (refine cell_alloc_kept _ ?_; assumption))) | (go_keep; done))))
    (first
    | (go_at_call 25; refine (unhide HIM6 _ (by have hh := unhide HK5'; with_reducible (repeat (first | assumption | apply InsAt.drewK | apply InsAt.allocK)))).mono ?_; rintro e w6 ⟨r6, rfl, hi6, ho6, hb6⟩; obtain ⟨a6, c6, rfl⟩ := ho6.slice
       first
         | (refine (fun (bx : Box w6 w5.heap.size 25 #[.int .i64 0, .slice none 0 0]) => ?_) ?side; (case side => (refine Box.kept ?_ hb6; with_reducible (repeat (first | exact Box.made _ _ _ | apply Box.drewK)); done)); have y0 := bx.two.1; have y1 := bx.two.2; have y2 := bx.free 0; have y3 := bx.free 1; have l6 := bx.lt; have BX := hide bx; clear bx)
         | skip))
  · rename_i hHeld
    have b6 : Below w5.heap.size w5 w6 := ((Below.refl w5.heap.size w5).drew).trans hb6
    have b7 : Below w5.heap.size w5 (w6.alloc (.cells #[.int .i64 V6, .slice a6 L6.length c6] 25)) := b6.alloc b6.size _
    have HW := hide ((unhide HB5).trans (b7.mono (unhide HB5).size))
    have HI := hide ((unhide HI5).kept b7)
    have HJ := hide (hi6.kept ((Below.refl w6.heap.size w6).alloc (Nat.le_refl _) (.cells #[.int .i64 V6, .slice a6 L6.length c6] 25)))
    have HXW := hide ((unhide HX5).kept b7)
    have HYW := hide (Box.made w6 25 #[.int .i64 V6, .slice a6 L6.length c6])
    have lz := ((unhide HX5).kept b6).lt
    clear hHeld hi6 ho6 hb6 b6 b7 g0 g1 x0 x1' c0
    obtain ⟨z0, z1⟩ := (unhide HXW).two
    obtain ⟨u0, u1⟩ := (unhide HYW).two
    rcases unhide HBK with hC | ⟨hC, hV, hL⟩
    · have h2 : (C6 == 2) = true := by simpa using hC
      clear hC
      go_wp2_with fail
      go_ret
      exact ⟨rfl, unhide HW⟩
    · have hL' := hL.symm
      clear hL
      subst hL'
      have h2 : (C6 == 2) = false := by rw [hC]; rfl
      have h0 : (C6 == 0) = true := by simpa using hC
      have hvv : (V6 == V + 2) = true := by simpa using hV
      clear hC hV
      go_wp2_with fail
      refine (loIns_any _ _ L L _ (unhide HJ) (unhide HI)).mono ?_; rintro e w8 ⟨rfl, hb8⟩
      obtain ⟨t0, t1⟩ := ((unhide HXW).kept hb8).two
      obtain ⟨s0, s1⟩ := ((unhide HYW).kept hb8).two
      have HZ := hide ((unhide HW).trans (hb8.mono (unhide HW).size))
      clear hb8 z0 z1 u0 u1
      go_wp2_with fail
      go_ret
      exact ⟨rfl, unhide HZ⟩
  · rename_i hHeld
    have bA : Below w5.heap.size w5 (w5.alloc (.cells #[.int .i64 0, .slice none 0 0] 25)).drew := ((Below.refl w5.heap.size w5).alloc (Nat.le_refl _) _).drew
    have b6 : Below w5.heap.size w5 w6 := bA.trans (hb6.mono (by simp))
    have b7 : Below w5.heap.size w5 ((w6.setCell ⟨w5.heap.size, 0, none⟩ (.int .i64 V6)).setCell ⟨w5.heap.size, 1, none⟩ (.slice a6 L6.length c6)) := (b6.setCell (by exact Nat.le_refl _) _).setCell (by exact Nat.le_refl _) _
    have HW := hide ((unhide HB5).trans (b7.mono (unhide HB5).size))
    have HI := hide ((unhide HI5).kept b7)
    have hbk := ho6.blk
    have hnb : (Value.slice a6 L6.length c6).ownBlock ≠ some w5.heap.size := by
      rcases hbk with h | ⟨q, h, q1, q2⟩
      · rw [h]; simp
      · rw [h]; simp at q1 ⊢; omega
    have HJ := hide ((hi6.set hnb 0 (.int .i64 V6)).set hnb 1 (.slice a6 L6.length c6))
    have HXW := hide ((unhide HX5).kept b7)
    have HYW := hide (Box.set2 (unhide BX) (.int .i64 V6) (.slice a6 L6.length c6))
    have lz := ((unhide HX5).kept b6).lt
    clear bA hbk hnb y0 y1 y2 y3 BX
    clear hHeld hi6 ho6 hb6 b6 b7 g0 g1 x0 x1' c0
    obtain ⟨z0, z1⟩ := (unhide HXW).two
    obtain ⟨u0, u1⟩ := (unhide HYW).two
    rcases unhide HBK with hC | ⟨hC, hV, hL⟩
    · have h2 : (C6 == 2) = true := by simpa using hC
      clear hC
      go_wp2_with fail
      go_ret
      exact ⟨rfl, unhide HW⟩
    · have hL' := hL.symm
      clear hL
      subst hL'
      have h2 : (C6 == 2) = false := by rw [hC]; rfl
      have h0 : (C6 == 0) = true := by simpa using hC
      have hvv : (V6 == V + 2) = true := by simpa using hV
      clear hC hV
      go_wp2_with fail
      refine (loIns_any _ _ L L _ (unhide HJ) (unhide HI)).mono ?_; rintro e w8 ⟨rfl, hb8⟩
      obtain ⟨t0, t1⟩ := ((unhide HXW).kept hb8).two
      obtain ⟨s0, s1⟩ := ((unhide HYW).kept hb8).two
      have HZ := hide ((unhide HW).trans (hb8.mono (unhide HW).size))
      clear hb8 z0 z1 u0 u1
      go_wp2_with fail
      go_ret
      exact ⟨rfl, unhide HZ⟩

end Go.Proofs.Ytmclmdleplfgeaa
