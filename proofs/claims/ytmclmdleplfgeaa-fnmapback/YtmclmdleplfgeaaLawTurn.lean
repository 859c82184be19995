/- The law FnMapTurn answers true at every two codes. -/
import Derived.Test.YtmclmdleplfgeaaLawMove
namespace Go.Proofs.Ytmclmdleplfgeaa
open Go.RowKit

/-- A map in its box. -/
structure MapBox (w : World) (g : Nat) (V : Int) (u : Value) (L : List Int) : Prop where
  bx : Box w g 25 #[.int .i64 V, u]
  ins : InsAt w u L

theorem MapBox.kept {w w' : World} {g : Nat} {V : Int} {u : Value} {L : List Int} (h : MapBox w g V u L) (hb : Below w.heap.size w w') : MapBox w' g V u L := ⟨h.bx.kept hb, h.ins.kept hb⟩
theorem MapBox.made (w : World) (V : Int) (u : Value) (L : List Int) (h : InsAt w u L) : MapBox (w.alloc (.cells #[.int .i64 V, u] 25)) w.heap.size V u L := ⟨Box.made _ _ _, h.kept ((Below.refl _ _).alloc (Nat.le_refl _) _)⟩
theorem alB (w : World) (o : Obj) : Below w.heap.size w (w.alloc o) := (Below.refl _ _).alloc (Nat.le_refl _) _
theorem below2 {B : Nat} {w w1 w2 : World} (h : Below B w w1) (hb : Below w1.heap.size w1 w2) (hB : B ≤ w1.heap.size) (o : Obj) : Below B w (w2.alloc o) := (h.trans (hb.mono hB)).trans ((alB w2 o).mono (Nat.le_trans hB hb.size))

theorem moveC_of {v : Int} {xs : List Int} {s t : Int} (h : mapOk v xs = true) : moveC v xs s t = moveCode v xs s t := by rw [moveC, if_pos h]

/-- Moves of two slots: the codes agree but for the last version, and both orders come to the same. -/
theorem move_turn {V : Int} {L : List Int} {s t o p : Int} (hm : mapOk V L = true) (hc : moveCode V L s t = 0) (hne : s ≠ o) :
    (moveC (moveV V L s t) (moveL V L s t) o p = 2 ∨ moveC (moveV V L s t) (moveL V L s t) o p = moveC V L o p) ∧
    (moveC (moveV V L s t) (moveL V L s t) o p = 0 → moveC V L o p = 0 →
      moveC (moveV V L o p) (moveL V L o p) s t = 0 ∧ moveV (moveV V L o p) (moveL V L o p) s t = moveV (moveV V L s t) (moveL V L s t) o p ∧ moveL (moveV V L o p) (moveL V L o p) s t = moveL (moveV V L s t) (moveL V L s t) o p) := by
  obtain ⟨hs, ht, hv⟩ := move_done hc
  obtain ⟨s1, s2⟩ := slB_bounds hs
  have hokM := mapOk_move hm s t
  have hlen := mapOk_len hm
  obtain ⟨_, e2, e3⟩ := moveC_done hm hc
  rw [e2, e3] at hokM
  rw [e2, e3]
  rw [moveC_of hokM, moveC_of hm]
  by_cases hop : (slB o && hsB p) = true
  case neg =>
    have hop' : (slB o && hsB p) = false := by simpa using hop
    rw [code_9 hop', code_9 hop']
    exact ⟨.inr rfl, fun h => absurd h (by decide)⟩
  rw [Bool.and_eq_true] at hop
  obtain ⟨ho, hp⟩ := hop
  obtain ⟨o1, o2⟩ := slB_bounds ho
  by_cases h9 : V + 1 = 99
  · rw [code_2 ho hp h9]
    exact ⟨.inl rfl, fun h => absurd h (by decide)⟩
  have hne' : s.toNat ≠ o.toNat := by omega
  have hg : (L.set s.toNat t).getD o.toNat 0 = L.getD o.toNat 0 := by simp [List.getD, hne']
  by_cases h3 : L.getD o.toNat 0 = p
  · rw [code_3 ho hp h9 (hg.trans h3), code_3 ho hp hv h3]
    exact ⟨.inr rfl, fun h => absurd h (by decide)⟩
  have d1 := code_0 ho hp h9 (by rw [hg]; exact h3)
  have d2 := code_0 ho hp hv h3
  rw [d1, d2]
  refine ⟨.inr rfl, fun _ _ => ?_⟩
  obtain ⟨_, f2, f3⟩ := moveC_done hm d2
  obtain ⟨_, k2, k3⟩ := moveC_done hokM d1
  have hokN := mapOk_move hm o p
  rw [f2, f3] at hokN
  rw [f2, f3, k2, k3]
  have hg' : (L.set o.toNat p).getD s.toNat 0 = L.getD s.toNat 0 := by simp [List.getD, Ne.symm hne']
  have h3' : (L.set o.toNat p).getD s.toNat 0 ≠ t := by
    rw [hg']
    intro e
    rw [code_3 hs ht hv e] at hc
    simp at hc
  obtain ⟨q1, q2, q3⟩ := moveC_done hokN (code_0 hs ht h9 h3')
  refine ⟨q1, q2, ?_⟩
  rw [q3]
  exact List.set_comm _ _ (Ne.symm hne')

set_option maxRecDepth 100000 in
set_option maxHeartbeats 8000000 in
theorem lawTurn_any (v v' : Value) (n n' : Nat) (w : World) (hv : BytesAt w v n) (hv' : BytesAt w v' n') :
    Calls Try.prog 6 #[v, v'] w fun e w' => e = .returned (.bool true) ∧ Below w.heap.size w w' := by
  have HV := hide hv
  have HV' := hide hv'
  obtain ⟨a0, cap0, rfl, h1, h2, -⟩ := hv
  obtain ⟨a0', cap0', rfl, h1', h2', -⟩ := hv'
  unfold maxLen at h2 h2'
  by_cases hn : 1048576 < (n : Int)
  · go_enter Try.func6, Try.ntmps6
    go_wp2_with fail
    go_ret
    exact ⟨rfl, Below.refl _ _⟩
  by_cases hn' : 1048576 < (n' : Int)
  · go_enter Try.func6, Try.ntmps6
    go_wp2_with fail
    go_ret
    exact ⟨rfl, Below.refl _ _⟩
  go_enter Try.func6, Try.ntmps6
  go_wp2_with fail
  refine (drawMapMove_any _ n _ (unhide HV)).mono ?_; rintro e w1 ⟨V, a, m, c, L, s, t, rfl, hi1, -, -, -, -, -, -, -, b1⟩
  have HM1 := hide (MapBox.made w1 V _ L hi1)
  have HB1 := hide (b1.trans ((alB w1 (.cells #[.int .i64 V, .slice a m c] 25)).mono b1.size))
  have HV1 := hide ((unhide HV').kept (unhide HB1))
  clear hi1 b1 HV HV' h1 h2 h1' h2'
  go_wp2_with fail
  refine (drawMapMove_any _ n' _ (unhide HV1)).mono ?_; rintro e w2 ⟨V', a', m', c', L', o, p, rfl, -, -, -, -, -, -, -, -, b2⟩
  have HM2 := hide (((unhide HM1).kept b2).kept (alB w2 (.cells #[.int .i64 V', .slice a' m' c'] 25)))
  have HB2 := hide (below2 (unhide HB1) b2 (unhide HB1).size (.cells #[.int .i64 V', .slice a' m' c'] 25))
  have lg2 := ((unhide HM1).kept b2).bx.lt
  clear b2 HV1 HM1
  have hspec := fun w h => specMove_any V (.slice a m c) L s t w h
  have himpl := fun w h => implMove_any V (.slice a m c) L s t w h
  have hcse : ∀ {X : Prop}, (mapOk V L = true → moveCode V L s t = 0 → s ≠ o → X) → (moveC V L s t = 0 → s ≠ o → X) := fun f h hne => by
    cases hm : mapOk V L with
    | false => have := (moveC_bad s t hm).1; rw [h] at this; simp at this
    | true => exact f hm (by rw [← moveC_of hm]; exact h) hne
  have hturn := hcse fun hm hc hne => move_turn (p := p) hm hc hne
  have himp2 := fun u w h => implMove_any (moveV V L s t) u (moveL V L s t) o p w h
  have himp3 := fun u w h => implMove_any V u L o p w h
  have himp4 := fun u w h => implMove_any (moveV V L o p) u (moveL V L o p) s t w h
  clear hcse
  generalize moveV V L s t = MV at *
  generalize moveC V L s t = MC at *
  generalize moveL V L s t = ML at *
  generalize moveV V L o p = ZV at *
  generalize moveC V L o p = ZC at *
  generalize moveL V L o p = ZL at *
  generalize moveV MV ML o p = YV at *
  generalize moveC MV ML o p = YC at *
  generalize moveL MV ML o p = YL at *
  generalize moveV ZV ZL s t = XV at *
  generalize moveC ZV ZL s t = XC at *
  generalize moveL ZV ZL s t = XL at *
  have HSP := hide hspec
  have HIM := hide himpl
  have HI2 := hide himp2
  have HI3 := hide himp3
  have HI4 := hide himp4
  have HTN := hide hturn
  have hee := eqMapB_self MV ML
  have hcc : (MC != MC) = false := by simp
  clear hspec himpl himp2 himp3 himp4 hturn
  obtain ⟨p0, p1⟩ := (unhide HM2).bx.two
  go_wp2_with fail
  refine (unhide HSP _ (unhide HM2).ins).mono ?_; rintro e w3 ⟨r3, rfl, ho3, hb3⟩
  obtain ⟨a3, c3, rfl, -⟩ := ownsRow_slice ho3
  have HW3 := hide (MapBox.made w3 MV _ ML (owned_ins ho3).1)
  have HM3 := hide (((unhide HM2).kept hb3).kept (alB w3 (.cells #[.int .i64 MV, .slice a3 ML.length c3] 25)))
  have HB3 := hide (below2 (unhide HB2) hb3 (unhide HB2).size (.cells #[.int .i64 MV, .slice a3 ML.length c3] 25))
  have lg3 := ((unhide HM2).kept hb3).bx.lt
  clear p0 p1 lg2 ho3 hb3 HM2
  obtain ⟨p0, p1⟩ := (unhide HM3).bx.two
  go_wp2_with fail
  refine (unhide HIM _ (unhide HM3).ins).mono ?_; rintro e w4 ⟨r4, rfl, hi4, ho4, hb4⟩
  obtain ⟨a4, c4, rfl⟩ := ho4.slice
  have lw4 := ((unhide HW3).kept hb4).bx.lt
  have lg4 := ((unhide HM3).kept hb4).bx.lt
  have HG4 := hide (MapBox.made w4 MV _ ML hi4)
  have HM4 := hide (((unhide HM3).kept hb4).kept (alB w4 (.cells #[.int .i64 MV, .slice a4 ML.length c4] 25)))
  have HW4 := hide (((unhide HW3).kept hb4).kept (alB w4 (.cells #[.int .i64 MV, .slice a4 ML.length c4] 25)))
  have HB4 := hide (below2 (unhide HB3) hb4 (unhide HB3).size (.cells #[.int .i64 MV, .slice a4 ML.length c4] 25))
  clear p0 p1 lg3 ho4 hi4 hb4 HM3 HW3
  obtain ⟨p0, p1⟩ := (unhide HW4).bx.two
  go_wp2_with fail
  refine (loMap_any MV MV _ _ ML ML _ (unhide HG4).ins (unhide HW4).ins).mono ?_; rintro e w5 ⟨rfl, hb5⟩
  have HG5 := hide ((unhide HG4).kept hb5)
  have HM5 := hide ((unhide HM4).kept hb5)
  have HW5 := hide ((unhide HW4).kept hb5)
  have HB5 := hide ((unhide HB4).trans (hb5.mono (unhide HB4).size))
  clear p0 p1 lw4 lg4 hb5 HG4 HM4 HW4
  obtain ⟨g0, g1⟩ := (unhide HG5).bx.two
  by_cases hz : MC = 0 ∧ s ≠ o
  case neg =>
    obtain ⟨y0, y1⟩ := (unhide HW5).bx.two
    have hzc : (MC == MC) = true := by simp
    by_cases hz0 : MC = 0
    · have hso : (s == o) = true := by
        by_cases e : s = o
        · simp [e]
        · exact absurd ⟨hz0, e⟩ hz
      have hzb : (MC != 0) = false := by simpa using hz0
      clear hz hz0
      go_wp2_with fail
      refine (loMap_any MV MV _ _ ML ML _ (unhide HG5).ins (unhide HW5).ins).mono ?_; rintro e w6 ⟨rfl, hb6⟩
      go_wp2_with fail
      go_ret
      exact ⟨rfl, (unhide HB5).trans (hb6.mono (unhide HB5).size)⟩
    · have hzb : (MC != 0) = true := by simpa using hz0
      clear hz hz0
      go_wp2_with fail
      refine (loMap_any MV MV _ _ ML ML _ (unhide HG5).ins (unhide HW5).ins).mono ?_; rintro e w6 ⟨rfl, hb6⟩
      go_wp2_with fail
      go_ret
      exact ⟨rfl, (unhide HB5).trans (hb6.mono (unhide HB5).size)⟩
  obtain ⟨hz0, hso0⟩ := hz
  have hzb : (MC != 0) = false := by simpa using hz0
  have hso : (s == o) = false := by simpa using hso0
  have HT := hide (unhide HTN hz0 hso0)
  clear hz0 hso0 HTN HW5
  go_wp2_with fail
  refine (unhide HI2 _ _ (unhide HG5).ins).mono ?_; rintro e w6 ⟨r6, rfl, hi6, ho6, hb6⟩
  obtain ⟨a6, c6, rfl⟩ := ho6.slice
  have lm6 := ((unhide HM5).kept hb6).bx.lt
  have HY6 := hide (MapBox.made w6 YV _ YL hi6)
  have HM6 := hide (((unhide HM5).kept hb6).kept (alB w6 (.cells #[.int .i64 YV, .slice a6 YL.length c6] 25)))
  have HB6 := hide (below2 (unhide HB5) hb6 (unhide HB5).size (.cells #[.int .i64 YV, .slice a6 YL.length c6] 25))
  clear g0 g1 hi6 ho6 hb6 HG5 HM5
  obtain ⟨p0, p1⟩ := (unhide HM6).bx.two
  go_wp2_with fail
  refine (unhide HI3 _ _ (unhide HM6).ins).mono ?_; rintro e w7 ⟨r7, rfl, hi7, ho7, hb7⟩
  obtain ⟨a7, c7, rfl⟩ := ho7.slice
  have ly7 := ((unhide HY6).kept hb7).bx.lt
  have HZ7 := hide (MapBox.made w7 ZV _ ZL hi7)
  have HY7 := hide (((unhide HY6).kept hb7).kept (alB w7 (.cells #[.int .i64 ZV, .slice a7 ZL.length c7] 25)))
  have HB7 := hide (below2 (unhide HB6) hb7 (unhide HB6).size (.cells #[.int .i64 ZV, .slice a7 ZL.length c7] 25))
  clear p0 p1 lm6 hi7 ho7 hb7 HM6 HY6
  by_cases hy : YC = 0
  case neg =>
    have hyb : (YC != 0) = true := by simpa using hy
    by_cases hyz : YC = ZC
    · have h7 : (YC == ZC) = true := by simpa using hyz
      clear hy hyz
      go_wp2_with fail
      go_ret
      exact ⟨rfl, unhide HB7⟩
    · have h7 : (YC == ZC) = false := by simpa using hyz
      have h8 : (YC == 2) = true := by
        rcases (unhide HT).1 with h | h
        · simp [h]
        · exact absurd h hyz
      clear hy hyz
      go_wp2_with fail
      go_ret
      exact ⟨rfl, unhide HB7⟩
  have hz : ZC = 0 := by
    rcases (unhide HT).1 with h | h
    · rw [hy] at h; exact absurd h (by decide)
    · rw [← h]; exact hy
  have hyb : (YC != 0) = false := by simpa using hy
  have hzb2 : (ZC != 0) = false := by simpa using hz
  obtain ⟨hx0, rfl, rfl⟩ := (unhide HT).2 hy hz
  have hxb : (XC == 0) = true := by simpa using hx0
  have hey := eqMapB_self XV XL
  clear hy hz hx0 HT
  go_wp2_with fail
  refine (unhide HI4 _ _ (unhide HZ7).ins).mono ?_; rintro e w8 ⟨r8, rfl, hi8, ho8, hb8⟩
  obtain ⟨a8, c8, rfl⟩ := ho8.slice
  have ly8 := ((unhide HY7).kept hb8).bx.lt
  have HX8 := hide (MapBox.made w8 XV _ XL hi8)
  have HY8 := hide (((unhide HY7).kept hb8).kept (alB w8 (.cells #[.int .i64 XV, .slice a8 XL.length c8] 25)))
  have HB8 := hide (below2 (unhide HB7) hb8 (unhide HB7).size (.cells #[.int .i64 XV, .slice a8 XL.length c8] 25))
  clear ly7 hi8 ho8 hb8 HY7 HZ7
  obtain ⟨p0, p1⟩ := (unhide HY8).bx.two
  go_wp2_with fail
  refine (loMap_any XV XV _ _ XL XL _ (unhide HX8).ins (unhide HY8).ins).mono ?_; rintro e w9 ⟨rfl, hb9⟩
  go_wp2_with fail
  go_ret
  exact ⟨rfl, (unhide HB8).trans (hb9.mono (unhide HB8).size)⟩

end Go.Proofs.Ytmclmdleplfgeaa
