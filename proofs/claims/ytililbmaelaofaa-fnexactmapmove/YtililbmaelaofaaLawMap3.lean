/- The law FnExactMapMove answers true. -/
import Derived.Test.YtililbmaelaofaaMapL
import Derived.Deep.DeepCutAuto
namespace Go.Proofs.Ytililbmaelaofaa
open Go.RowKit

theorem moveL_length (v : Int) (xs : List Int) (s t : Int) : (moveL v xs s t).length ≤ 8 := by
  unfold moveL
  split
  · rename_i h
    have := mapOk_len h
    split
    · rw [List.length_set]; omega
    · omega
  · simp

set_option maxRecDepth 100000 in
set_option maxHeartbeats 4000000 in
theorem lawMapMove_any (v : Int) (u : Value) (xs : List Int) (s t : Int) (w : World) (hu : InsAt w u xs) :
    Calls Try.prog 11 #[.agg #[.int .i64 v, u], .int .i64 s, .int .i64 t] w fun e w' => e = .returned (.bool true) ∧ Below w.heap.size w w' := by
  have HU := hide hu
  obtain ⟨a, cap, rfl, h1, h2, h3⟩ := hu
  have hml : xs.length ≤ maxLen := Nat.le_trans h1 h2
  have bA : Below w.heap.size w (w.alloc (.cells #[.int .i64 v, .slice a xs.length cap] 40)) := (Below.refl _ _).alloc (Nat.le_refl _) _
  clear h1 h2 h3
  by_cases hn : (xs.length : Int) ≤ 1048576
  case neg =>
    go_enter Try.func11, Try.ntmps11
    go_wp2_with fail
    refine (szMap_no v a _ cap _ hml (by omega)).mono ?_; rintro e w1 ⟨rfl, hb1⟩
    go_wp2_with fail
    go_ret
    exact ⟨rfl, bA.trans (hb1.mono bA.size)⟩
  have hn' : xs.length ≤ 1048576 := by omega
  have hp : ¬ (1048576 - (xs.length : Int)) < 0 := by omega
  have hspec := fun u w h => specMove_any v u xs s t w h
  have himpl := fun u w h => implMove_any v u xs s t w h
  have hLl := moveL_length v xs s t
  generalize moveV v xs s t = V at *
  generalize moveC v xs s t = C at *
  generalize moveL v xs s t = L at *
  have HSP := hide hspec
  have HIM := hide himpl
  have hee := eqMapB_self V L
  have hex := eqMapB_self v xs
  have hcc : (C != C) = false := by simp
  clear hspec himpl
  go_enter Try.func11, Try.ntmps11
  go_wp2_with fail
  refine (szMap_yes v a _ cap _ hn).mono ?_; rintro e w1 ⟨rfl, hb1⟩
  have HB1 := hide (bA.trans (hb1.mono bA.size))
  have HA1 := hide ((Box.made w 40 #[.int .i64 v, .slice a xs.length cap]).kept hb1)
  clear hb1 bA
  obtain ⟨a0, a1⟩ := (unhide HA1).two
  go_wp2_with fail
  refine (toMap_any v _ xs _ ((unhide HU).kept (unhide HB1)) hn').mono ?_; rintro e w2 ⟨g2, rfl, hi2, ho2, hb2⟩
  go_wp2_with fail
  refine (unhide HSP _ _ hi2).mono ?_; rintro e w3 ⟨r3, rfl, ho3, hb3⟩
  obtain ⟨a3, c3, rfl, -⟩ := ownsRow_slice ho3
  have hb13 := hb2.trans (hb3.mono hb2.size)
  have z13 := hb13.size
  have z23 := hb2.size
  have HI3 := hide (owned_ins ho3).1
  have HK3 := hide ((blk_own ho3).wide (lo' := w1.heap.size) (by omega) (Nat.le_refl _))
  have HB3 := hide ((unhide HB1).trans (hb13.mono (unhide HB1).size))
  have HA3 := hide ((unhide HA1).kept hb13)
  have lA : w.heap.size < w1.heap.size := (unhide HA1).lt
  clear a0 a1 hi2 ho2 hb2 hb3 ho3 hb13 HA1
  have lA3 := (unhide HA3).lt
  obtain ⟨a0, a1⟩ := (unhide HA3).two
  have bW : Below w3.heap.size w3 (w3.alloc (.cells #[.int .i64 V, .slice a3 L.length c3] 25)) := (Below.refl _ _).alloc (Nat.le_refl _) _
  have HB3A := hide ((unhide HB3).trans (bW.mono (unhide HB3).size))
  go_wp2_with fail
  refine (toMap_any v _ xs _ ((unhide HU).kept (unhide HB3A)) hn').mono ?_; rintro e w4 ⟨g4, rfl, hi4, ho4, hb4⟩
  have hz34 := hb4.size
  simp at hz34
  have bX : Below w4.heap.size w4 (w4.alloc (.cells #[.int .i64 v, .slice (some ⟨g4, 0, none⟩) xs.length xs.length] 25)) := (Below.refl _ _).alloc (Nat.le_refl _) _
  have HK4 := hide ho4.blk
  have HO4 := hide (ho4.kept bX)
  have HX4 := hide (Box.made w4 25 #[.int .i64 v, .slice (some ⟨g4, 0, none⟩) xs.length xs.length])
  have HW4 := hide (((Box.made w3 25 #[.int .i64 V, .slice a3 L.length c3]).kept hb4).kept bX)
  have HA4 := hide ((((unhide HA3).kept bW).kept hb4).kept bX)
  have HI34 := hide ((((unhide HI3).kept bW).kept hb4).kept bX)
  have HI4 := hide (hi4.kept bX)
  have HB4 := hide (((unhide HB3A).trans (hb4.mono (unhide HB3A).size)).trans (bX.mono (by omega)))
  clear a0 a1 hi4 ho4 hb4 bX bW HA3 HI3
  go_wp2_with fail
  refine (unhide HIM _ _ (unhide HI4)).mono ?_; rintro e w5 ⟨r5, rfl, hi5, ho5, hb5⟩
  obtain ⟨a5, c5, rfl⟩ := ho5.slice
  have hz45 := hb5.size
  simp at hz45 ho5
  have bG : Below w5.heap.size w5 (w5.alloc (.cells #[.int .i64 V, .slice a5 L.length c5] 25)) := (Below.refl _ _).alloc (Nat.le_refl _) _
  have HK5 := hide ho5.blk
  have HO5 := hide (ho5.kept bG)
  have HI5 := hide (hi5.kept bG)
  have HG5 := hide (Box.made w5 25 #[.int .i64 V, .slice a5 L.length c5])
  have HX5 := hide (((unhide HX4).kept hb5).kept bG)
  have HW5 := hide (((unhide HW4).kept hb5).kept bG)
  have HA5 := hide (((unhide HA4).kept hb5).kept bG)
  have HI35 := hide (((unhide HI34).kept hb5).kept bG)
  have HI45 := hide (((unhide HI4).kept hb5).kept bG)
  have HO45 := hide (((unhide HO4).kept hb5).kept bG)
  have HB5 := hide (((unhide HB4).trans (hb5.mono (unhide HB4).size)).trans (bG.mono (by omega)))
  clear hi5 ho5 hb5 bG HX4 HW4 HA4 HI34 HI4 HO4
  obtain ⟨p0, p1⟩ := (unhide HW5).two
  have lw : w3.heap.size < w5.heap.size := by omega
  have lx : w4.heap.size < w5.heap.size := by omega
  go_wp2_with fail
  refine (eqMap_any V V _ _ L L _ (unhide HI5) (unhide HI35)).mono ?_; rintro e w6 ⟨rfl, hb6⟩
  have hz56 := hb6.size
  simp at hz56
  have HG6 := hide ((unhide HG5).kept hb6)
  have HX6 := hide ((unhide HX5).kept hb6)
  have HW6 := hide ((unhide HW5).kept hb6)
  have HA6 := hide ((unhide HA5).kept hb6)
  have HI36 := hide ((unhide HI35).kept hb6)
  have HI46 := hide ((unhide HI45).kept hb6)
  have HO46 := hide ((unhide HO45).kept hb6)
  have HI56 := hide ((unhide HI5).kept hb6)
  have HO56 := hide ((unhide HO5).kept hb6)
  have HB6 := hide ((unhide HB5).trans (hb6.mono (unhide HB5).size))
  clear p0 p1 hb6 HG5 HX5 HW5 HA5 HI35 HI45 HO45 HI5 HO5
  obtain ⟨x0, x1⟩ := (unhide HX6).two
  obtain ⟨y0, y1⟩ := (unhide HA6).two
  go_wp2_with fail
  go_cut [53] (fun b wr => b = .bool false ∧ Below w6.heap.size w6 wr)
  case first =>
    go_region_with (first
      | (go_at_call 30; refine (toMap_any v _ xs _ ((unhide HU).kept (unhide HB6).drew) hn').mono ?_; rintro e w7 ⟨g7, rfl, hi7, ho7, hb7⟩; have hb7' : Below w6.heap.size w6 w7 := ((Below.refl _ _).drew).trans hb7; have x0' := cell_kept hb7' x0; have x1' := cell_kept hb7' x1; have HI7 := hide hi7; have HB7 := hide hb7'; clear hi7 ho7 hb7 hb7')
      | (go_at_call 26; refine (eqMap_any v v _ _ xs xs _ ((unhide HI46).kept (unhide HB7)) (unhide HI7)).mono ?_; rintro e w8 ⟨rfl, hb8⟩))
    all_goals (go_wp2_with fail; go_meet; case rel => exact ⟨rfl, (unhide HB7).trans (hb8.mono (unhide HB7).size)⟩)
  case rest =>
    obtain ⟨rfl, hbc⟩ := hcut
    have hzc := hbc.size
    have HGc := hide ((unhide HG6).kept hbc)
    have HXc := hide ((unhide HX6).kept hbc)
    have HWc := hide ((unhide HW6).kept hbc)
    have HAc := hide ((unhide HA6).kept hbc)
    have HI3c := hide ((unhide HI36).kept hbc)
    have HO4c := hide ((unhide HO46).kept hbc)
    have HI5c := hide ((unhide HI56).kept hbc)
    have HO5c := hide ((unhide HO56).kept hbc)
    have HBc := hide ((unhide HB6).trans (hbc.mono (unhide HB6).size))
    clear x0 x1 y0 y1 hbc HG6 HX6 HW6 HA6 HI36 HI46 HO46 HI56 HO56
    have zB := (unhide HB1).size
    obtain ⟨x0, x1⟩ := (unhide HXc).two
    have hp1 : ¬ (1 + (xs.length : Int)) < 0 := by omega
    have hp2 : ¬ (1 + (L.length : Int)) < 0 := by omega
    have hp3 : ((1 + (L.length : Int)) != (1 + (L.length : Int))) = false := by simp
    go_wp2_with fail
    refine (markMap_any v _ xs.length _ _ hn' (unhide HO4c)).mono ?_; rintro e w8 ⟨rfl, hg8, -⟩
    have hz8 := hg8.size
    have HG8 := hide ((unhide HGc).far hg8 ((unhide HK4).ne (by omega)))
    have HW8 := hide ((unhide HWc).far hg8 ((unhide HK4).ne (by simp)))
    have HA8 := hide ((unhide HAc).far hg8 ((unhide HK4).ne (by simp; omega)))
    have HI38 := hide ((unhide HI3c).far hg8 ((unhide HK3).apart (unhide HK4) (by simp)))
    have HI58 := hide ((unhide HI5c).far hg8 ((unhide HK5).apart (unhide HK4) (by omega)))
    have HO58 := hide ((unhide HO5c).far hg8 ((unhide HK5).apart (unhide HK4) (by omega)))
    have HB8 : Hid (Below w.heap.size w w8) := Below.grown (unhide HBc) hg8 (unhide HBc).size (fun q hq => by have := (unhide HK4).low q hq; simp at this; omega)
    clear x0 x1 hg8 HGc HXc HWc HAc HI3c HO4c HI5c HO5c
    obtain ⟨x0, x1⟩ := (unhide HG8).two
    obtain ⟨y0, y1⟩ := (unhide HW8).two
    go_wp2_with fail
    refine (eqMap_any V V _ _ L L _ (unhide HI58) (unhide HI38)).mono ?_; rintro e w9 ⟨rfl, hb9⟩
    have hz9 := hb9.size
    have HG9 := hide ((unhide HG8).kept hb9)
    have HW9 := hide ((unhide HW8).kept hb9)
    have HA9 := hide ((unhide HA8).kept hb9)
    have HI39 := hide ((unhide HI38).kept hb9)
    have HO59 := hide ((unhide HO58).kept hb9)
    have HB9 := hide ((unhide HB8).trans (hb9.mono (unhide HB8).size))
    clear x0 x1 y0 y1 hb9 HG8 HW8 HA8 HI38 HI58 HO58
    obtain ⟨x0, x1⟩ := (unhide HG9).two
    go_wp2_with fail
    refine (markMap_any V _ L.length _ _ (by omega) (unhide HO59)).mono ?_; rintro e w10 ⟨rfl, hg10, hm10⟩
    have hz10 := hg10.size
    have HG10 := hide ((unhide HG9).far hg10 ((unhide HK5).ne (by omega)))
    have HW10 := hide ((unhide HW9).far hg10 ((unhide HK5).ne (by omega)))
    have HA10 := hide ((unhide HA9).far hg10 ((unhide HK5).ne (by omega)))
    have HI310 := hide ((unhide HI39).far hg10 ((unhide HK3).apart (unhide HK5) (by omega)))
    have HM10 := hide hm10
    have HB10 : Hid (Below w.heap.size w w10) := Below.grown (unhide HB9) hg10 (unhide HB9).size (fun q hq => by have := (unhide HK5).low q hq; omega)
    clear x0 x1 hg10 hm10 HG9 HW9 HA9 HI39 HO59
    obtain ⟨x0, x1⟩ := (unhide HG10).two
    go_wp2_with fail
    refine (heldMap_any V _ L.length _ (by omega) (unhide HM10)).mono ?_; rintro e w11 ⟨rfl, hb11⟩
    have hz11 := hb11.size
    have HG11 := hide ((unhide HG10).kept hb11)
    have HW11 := hide ((unhide HW10).kept hb11)
    have HA11 := hide ((unhide HA10).kept hb11)
    have HI311 := hide ((unhide HI310).kept hb11)
    have HM11 := hide ((unhide HM10).kept hb11)
    have HB11 := hide ((unhide HB10).trans (hb11.mono (unhide HB10).size))
    clear x0 x1 hb11 HG10 HW10 HA10 HI310 HM10
    obtain ⟨y0, y1⟩ := (unhide HA11).two
    go_wp2_with fail
    refine (toMap_any v _ xs _ ((unhide HU).kept (unhide HB11)) hn').mono ?_; rintro e w12 ⟨g12, rfl, hi12, ho12, hb12⟩
    go_wp2_with fail
    refine (unhide HIM _ _ hi12).mono ?_; rintro e w13 ⟨r13, rfl, hi13, ho13, hb13⟩
    obtain ⟨a13, c13, rfl⟩ := ho13.slice
    have hb113 := hb12.trans (hb13.mono hb12.size)
    have hz13 := hb113.size
    have bH : Below w13.heap.size w13 (w13.alloc (.cells #[.int .i64 V, .slice a13 L.length c13] 25)) := (Below.refl _ _).alloc (Nat.le_refl _) _
    have HG13 := hide (((unhide HG11).kept hb113).kept bH)
    have HW13 := hide (((unhide HW11).kept hb113).kept bH)
    have HI313 := hide (((unhide HI311).kept hb113).kept bH)
    have HM13 := hide (((unhide HM11).kept hb113).kept bH)
    have HI13 := hide (hi13.kept bH)
    have HB13 := hide (((unhide HB11).trans (hb113.mono (unhide HB11).size)).trans (bH.mono (by have := (unhide HB11).size; omega)))
    clear y0 y1 hi12 ho12 hb12 hi13 ho13 hb13 hb113 bH HG11 HW11 HA11 HI311 HM11
    obtain ⟨y0, y1⟩ := (unhide HW13).two
    have lw' : w3.heap.size < w13.heap.size := by omega
    have lx' : w5.heap.size < w13.heap.size := by omega
    go_wp2_with fail
    refine (eqMap_any V V _ _ L L _ (unhide HI13) (unhide HI313)).mono ?_; rintro e w14 ⟨rfl, hb14⟩
    have HG14 := hide ((unhide HG13).kept hb14)
    have HM14 := hide ((unhide HM13).kept hb14)
    have HB14 := hide ((unhide HB13).trans (hb14.mono (unhide HB13).size))
    clear y0 y1 hb14
    obtain ⟨x0, x1⟩ := (unhide HG14).two
    go_wp2_with fail
    refine (heldMap_any V _ L.length _ (by omega) (unhide HM14)).mono ?_; rintro e w15 ⟨rfl, hb15⟩
    go_wp2_with fail
    go_ret
    exact ⟨rfl, (unhide HB14).trans (hb15.mono (unhide HB14).size)⟩

end Go.Proofs.Ytililbmaelaofaa
