/- The specification's CallSlots. -/
import Derived.Test.YtedlhepbbefikaaGreatDoorCaK
import Derived.Test.YtedlhepbbefikaaGreatDoorCsM
import Derived.Test.YtedlhepbbefikaaGreatDoorMapS
namespace Go.Proofs.YtedlhepbbefikaaGreatDoor
open Go.RowKit

/-- The slots of a call, ascending. -/
def slotsC (c : Cl) : List Int := if callB c = true then r8.filter (tb (decide (c.kind = 2)) c.slot ((readL c.text).getD [])) else []
theorem slotsC_no {c : Cl} (h : callB c = false) : slotsC c = [] := by unfold slotsC; rw [if_neg (by simp [h])]
theorem slotsC_yes {c : Cl} (h : callB c = true) : slotsC c = tbs (decide (c.kind = 2)) c.slot ((readL c.text).getD []) 8 := by unfold slotsC; rw [if_pos h]; rfl
theorem deal_len (t : List UInt8) : ((readL t).getD []).length ≤ 6 := by
  cases h : readL t with
  | none => simp
  | some D => exact (dealOk_num (readL_some h).2.1).2
/-- .. as far as the first j statements are looked at. -/
def tbj (b0 : Bool) (D : List St) (j : Nat) (s : Int) : Bool := b0 || (D.take j).any fun x => decide (slotOf x.key = s)
theorem tbj_succ (b0 : Bool) (D : List St) (j : Nat) (s : Int) (h : j < D.length) : tbj b0 D (j + 1) s = (tbj b0 D j s || decide (slotOf (D.getD j St.z).key = s)) := by
  unfold tbj
  rw [List.take_succ_eq_append_getElem h, List.any_append, Bool.or_assoc]
  simp [List.getD, h]
theorem tbj_zero (b0 : Bool) (D : List St) (s : Int) : tbj b0 D 0 s = b0 := by simp [tbj]
theorem tbj_all (b : Bool) (t : Int) (D : List St) (j : Nat) (s : Int) (h : D.length ≤ j) : tbj (b && decide (t = s)) D j s = tb b t D s := by
  unfold tbj tb; rw [List.take_of_length_le h]

theorem ret_bool2 {a b : Bool} (h : a = b) : Value.bool a = .bool b := by rw [h]
theorem st_key {w : World} {a : Option Addr} {n cap : Nat} {ss : List St} (h : StsAt w (.slice a n cap) ss) {i : Nat} (hi : i < ss.length) : ∃ b off, a = some ⟨b, off, none⟩ ∧ w.cell? ⟨b, off + i * 3 + 1, none⟩ = some (.int .i64 (ss.getD i St.z).key) := by
  obtain ⟨a', cap', e, h1, h2, h3⟩ := h
  cases e
  rcases h3 with rfl | ⟨b, off, rfl, hc⟩
  · simp at hi
  · exact ⟨b, off, rfl, (hc i hi).2.1⟩

theorem sts_cells3 {w : World} {a : Option Addr} {n cap : Nat} {ss : List St} (h : StsAt w (.slice a n cap) ss) {i : Nat} (hi : i < ss.length) : ∃ b off, a = some ⟨b, off, none⟩ ∧ w.cell? ⟨b, off + i * 3, none⟩ = some (.int .i64 (ss.getD i St.z).op) ∧ w.cell? ⟨b, off + i * 3 + 1, none⟩ = some (.int .i64 (ss.getD i St.z).key) ∧ w.cell? ⟨b, off + i * 3 + 2, none⟩ = some (.int .i64 (ss.getD i St.z).num) := by
  obtain ⟨a', cap', e, h1, h2, h3⟩ := h
  cases e
  rcases h3 with rfl | ⟨b, off, rfl, hc⟩
  · simp at hi
  · exact ⟨b, off, rfl, hc i hi⟩

set_option maxRecDepth 100000 in
set_option maxHeartbeats 4000000 in
theorem sCallSlots_any (c : Cl) (w : World) :
    Calls Tryz.prog 6 #[.agg (clC c)] w fun e w' => (∃ r, e = .returned r ∧ w'.ownsRow w.heap.size 3 1 r (slotsC c).length ((slotsC c).map (Value.int .i64))) ∧ Below w.heap.size w w' := by
  have HOK := hide (fun ww => sCallOk_any c ww)
  have HRD := hide (fun ww => sRead_any c.text ww)
  have HT := hide (fun e w base (h : DRes e w base c.text) => h.tell)
  have HN := hide (fun (h : callB c = false) => slotsC_no h)
  have HY := hide (fun (h : callB c = true) => slotsC_yes h)
  have HDL := hide (deal_len c.text)
  obtain ⟨i0, hi, hz0, hz1, hz2⟩ := info_parts Tryz.infoI1
  generalize slotsC c = R at *
  generalize callB c = B at *
  generalize (readL c.text).getD [] = D at *
  obtain ⟨sess, num, kind, text, slot, dst⟩ := c
  simp only [clC] at *
  have HX := hide ((Box.made w 24 #[.int .i64 sess, .int .i64 num, .int .i64 kind, .string ⟨text.toArray⟩, .int .i64 slot, .int .i64 dst]).kept ((Below.refl _ _).alloc (Nat.le_refl _) (.cells #[] 3)))
  have HA := hide (((Below.refl w.heap.size w).alloc (Nat.le_refl _) (.cells #[.int .i64 sess, .int .i64 num, .int .i64 kind, .string ⟨text.toArray⟩, .int .i64 slot, .int .i64 dst] 24)).alloc (by simp) (.cells #[] 3))
  have ho := (World.ownsRow_made (w.alloc (.cells #[.int .i64 sess, .int .i64 num, .int .i64 kind, .string ⟨text.toArray⟩, .int .i64 slot, .int .i64 dst] 24)) (e := 3) (size := 1) (base := w.heap.size + 1) #[] 0 (by simp) (by simp [maxLen]) (by simp))
  rw [show (w.alloc (.cells #[.int .i64 sess, .int .i64 num, .int .i64 kind, .string ⟨text.toArray⟩, .int .i64 slot, .int .i64 dst] 24)).heap.size = w.heap.size + 1 by simp] at ho
  have HO := hide ho
  clear ho
  go_enter Tryz.func6, Tryz.ntmps6
  go_wp2_with fail
  refine (unhide HOK _).mono ?_; rintro e w1 ⟨rfl, hb1⟩
  have HB1 := hide ((unhide HA).trans (hb1.mono (unhide HA).size))
  have HSZ1 : Hid (w.heap.size + 2 ≤ w1.heap.size) := by have := hb1.size; simp at this; show _ ≤ _; omega
  have HX1 := hide ((unhide HX).kept hb1)
  have HO1 := hide (ownsRow_below (unhide HO) hb1)
  clear hb1 HX HA HO
  obtain ⟨q0, q1, q2, q3, q4, q5⟩ : _ ∧ _ ∧ _ ∧ _ ∧ _ ∧ _ := ⟨(unhide HX1).cell 0, (unhide HX1).cell 1, (unhide HX1).cell 2, (unhide HX1).cell 3, (unhide HX1).cell 4, (unhide HX1).cell 5⟩
  simp only [List.getElem?_toArray, List.getElem?_cons_zero, List.getElem?_cons_succ] at q0 q1 q2 q3 q4 q5
  cases B
  · go_wp2_with fail
    go_ret
    refine ⟨⟨_, rfl, ?_⟩, unhide HB1⟩
    rw [unhide HN (by first | rfl | trivial)]; exact ownsRow_base (unhide HO1) (by omega)
  go_wp2_with fail
  refine (unhide HRD _).mono ?_; rintro e w2 ⟨hR2, hb2⟩
  obtain ⟨r2, rfl, o2⟩ := unhide HT _ _ _ hR2
  have HB2 := hide ((unhide HB1).trans (hb2.mono (unhide HB1).size))
  have HX2 := hide ((unhide HX1).kept hb2)
  have HO2 := hide (ownsRow_below (unhide HO1) hb2)
  have HST := hide (sts_of_row (RowAt.of_own o2))
  have E2 := hide (fun q hq => o2.lt q hq)
  have E1 : Hid (∀ q, (Value.slice (some ⟨w.heap.size + 1, 0, none⟩) 0 0).ownBlock = some q → q = w.heap.size + 1 ∨ w2.heap.size ≤ q) := fun q hq => .inl (by simp [Value.ownBlock] at hq; exact hq.symm)
  have hz12 := hb2.size
  have hz01 := (unhide HB1).size
  have hz02 : w.heap.size + 2 ≤ w1.heap.size := HSZ1
  obtain ⟨a2, c2, hr2, hcap2⟩ := ownsRow_slice o2
  subst hr2
  clear hb2 hR2 o2 q0 q1 q2 q3 q4 q5 HX1 HO1 HB1 hcap2
  generalize hn : D.length = N at *
  have HNN := hide hn
  clear hn
  have hN6 : N ≤ 6 := unhide HDL
  go_wp2_with fail
  go_loopw [3, 6] (fun r i wr => ∃ k : Nat, k ≤ 8 ∧ i = .int .i64 k ∧ wr.ownsRow (w.heap.size + 1) 3 1 r (tbs (decide (kind = 2)) slot D k).length ((tbs (decide (kind = 2)) slot D k).map (Value.int .i64)) ∧ (∀ q, r.ownBlock = some q → q = w.heap.size + 1 ∨ w2.heap.size ≤ q) ∧ Box wr w.heap.size 24 #[.int .i64 sess, .int .i64 num, .int .i64 kind, .string ⟨text.toArray⟩, .int .i64 slot, .int .i64 dst] ∧ StsAt wr (.slice a2 N c2) D ∧ Below w.heap.size w wr ∧ w2.heap.size ≤ wr.heap.size) (fun _ i _ => 8 - (intOf i).toNat)
  case atStart => exact ⟨0, Nat.zero_le _, rfl, unhide HO2, unhide E1, unhide HX2, unhide HST, unhide HB2, Nat.le_refl _⟩
  case round =>
    obtain ⟨k, hk, rfl, hown, hob, hxr, hsr, hb, hz2r⟩ := hrel
    have HOW := hide hown
    have HBR := hide hb
    have HOB := hide hob
    have hzr := hb.size
    have HXR := hide hxr
    have HSR := hide hsr
    have HTL := hide (tbs_len (decide (kind = 2)) slot D k)
    clear hown hb hob hxr hsr
    obtain ⟨q2, q4⟩ : _ ∧ _ := ⟨(unhide HXR).cell 2, (unhide HXR).cell 4⟩
    simp only [List.getElem?_toArray, List.getElem?_cons_zero, List.getElem?_cons_succ] at q2 q4
    by_cases hlt : k < 8
    · have HSU := hide (tbs_succ (decide (kind = 2)) slot D k hlt)
      have HAL := hide (fun j h => tbj_all (decide (kind = 2)) slot D j (k : Int) h)
      have hkI : (k : Int) < 8 := by omega
      rename World => wo
      by_cases hk2 : kind = 2
      · have hk2' : (kind == 2) = true := by simpa using hk2
        by_cases hs : slot = (k : Int)
        · have hs' : (slot == (k : Int)) = true := by simpa using hs
          have HB0 : Hid ((decide (kind = 2) && decide (slot = (k : Int))) = true) := by show _ = _; simp [hs, hk2]
          clear hs hk2
          go_wp2_with fail
          go_loopw [7, 8] (fun q i wr => ∃ j : Nat, j ≤ N ∧ i = .int .i64 j ∧ q = .bool (tbj (decide (kind = 2) && decide (slot = (k : Int))) D j k) ∧ Below wo.heap.size wo wr) (fun _ i _ => N - (intOf i).toNat)
          case atStart => exact ⟨0, Nat.zero_le _, rfl, by rw [tbj_zero, unhide HB0], Below.refl _ _⟩
          case round =>
            obtain ⟨j, hj, rfl, rfl, hb⟩ := hrel
            have HBJ := hide hb
            have hzj := hb.size
            by_cases hlj : j < N
            · obtain ⟨b, off, rfl, ck⟩ := st_key ((unhide HSR).kept hb) (i := j) (by rw [unhide HNN]; exact hlj)
              have HJ := hide (tbj_succ (decide (kind = 2) && decide (slot = (k : Int))) D j (k : Int) (by rw [unhide HNN]; exact hlj))
              have hjI : (j : Int) < (N : Int) := by omega
              generalize (D.getD j St.z).key = ky at *
              generalize tbj (decide (kind = 2) && decide (slot = (k : Int))) D j (k : Int) = T at *
              clear hb
              cases T
              · go_wp2_with (go_at_call 21; refine (specMapSlot_any _ _).mono ?_; rintro e w' ⟨rfl, rfl⟩)
                go_roundw
                case rel => exact ⟨j + 1, hlj, by go_num, ret_bool2 (by rw [unhide HJ, Bool.false_or]; first | rfl | (rw [Bool.eq_iff_iff]; simp)), unhide HBJ⟩
                case measure => simp [intOf]; omega
              · go_wp2_with fail
                go_roundw
                case rel => exact ⟨j + 1, hlj, by go_num, ret_bool2 (by rw [unhide HJ]; simp), unhide HBJ⟩
                case measure => simp [intOf]; omega
            · have hjI : ¬ (j : Int) < (N : Int) := by omega
              have hal := unhide HAL j (by rw [unhide HNN]; omega)
              rw [hal]
              clear hal
              generalize tb (decide (kind = 2)) slot D (k : Int) = T at *
              cases T
              · go_wp2_with fail
                go_roundw
                case rel =>
                  refine ⟨k + 1, hlt, by go_num, ?_, unhide HOB, (unhide HXR).kept hb, (unhide HSR).kept hb, (unhide HBR).trans (hb.mono hzr), by omega⟩
                  rw [unhide HSU]; simpa using ownsRow_below (unhide HOW) hb
                case measure => simp [intOf]; omega
              · have HOJ := hide (ownsRow_below (unhide HOW) hb)
                have htl := unhide HTL
                generalize tbs (decide (kind = 2)) slot D k = F at *
                have HFB := hide ((unhide HBR).trans (hb.mono hzr))
                have HXJ := hide ((unhide HXR).kept hb)
                have HSJ := hide ((unhide HSR).kept hb)
                clear hb HBJ
                rename World => wj
                go_wp2_with (at_builtin; refine wpList_append_lies _ rfl _ _ 26 rfl (w.heap.size + 1) 3 i0 (.int .i64 0) 1 8 Tryz.underlying26 hi hz0 hz1 hz2 rfl (by decide) _ F.length _ rfl ((unhide HOJ).alloc _) ⟨wj.heap.size, 0, none⟩ 1 1 [.int .i64 (k : Int)] rfl rfl (World.news_of_block (heap_alloc_new _ _)) (by simp [Value.oneCell']) (by decide) (by unfold maxLen; omega) (by omega) (by simp; omega) (wj.heap.size + 1) (by simp) ?_; intro ga cp w9 hown2 hgrow hat hlt2)
                have hq9 := fun q hq => ((unhide HOJ).lt q hq)
                have bC : Below wj.heap.size wj (wj.alloc (.cells #[.int .i64 (k : Int)] 3)) := (Below.refl _ _).alloc (Nat.le_refl _) _
                go_roundw
                case rel =>
                  refine ⟨k + 1, hlt, by go_num, ?_, ?_, ((unhide HXJ).kept bC).far hgrow ?_, ((unhide HSJ).kept bC).far hgrow ?_, Below.grown ((unhide HFB).alloc (unhide HFB).size _) hgrow (by simp; omega) (fun q hq => by have := (hq9 q hq).1; omega), by have := hgrow.size; simp at this; omega⟩
                  · rw [unhide HSU, List.map_append, List.length_append]; exact hown2
                  · intro q hq
                    have hq' : ga = q := by simpa [Value.ownBlock] using hq
                    rcases hat with e | e
                    · exact unhide HOB q (e.trans (by rw [hq']))
                    · omega
                  · intro e; have := (hq9 _ e.symm).1; omega
                  · cases hq : (Value.slice a2 N c2).ownBlock with
                    | none => exact .inl rfl
                    | some q => right; intro e; have h1 := unhide E2 q hq; have h2 := unhide HOB q e.symm; omega
                case measure => simp [intOf]; omega
        · have hs' : (slot == (k : Int)) = false := by simpa using hs
          have HB0 : Hid ((decide (kind = 2) && decide (slot = (k : Int))) = false) := by show _ = _; simp [hs, hk2]
          clear hs hk2
          go_wp2_with fail
          go_loopw [7, 8] (fun q i wr => ∃ j : Nat, j ≤ N ∧ i = .int .i64 j ∧ q = .bool (tbj (decide (kind = 2) && decide (slot = (k : Int))) D j k) ∧ Below wo.heap.size wo wr) (fun _ i _ => N - (intOf i).toNat)
          case atStart => exact ⟨0, Nat.zero_le _, rfl, by rw [tbj_zero, unhide HB0], Below.refl _ _⟩
          case round =>
            obtain ⟨j, hj, rfl, rfl, hb⟩ := hrel
            have HBJ := hide hb
            have hzj := hb.size
            by_cases hlj : j < N
            · obtain ⟨b, off, rfl, ck⟩ := st_key ((unhide HSR).kept hb) (i := j) (by rw [unhide HNN]; exact hlj)
              have HJ := hide (tbj_succ (decide (kind = 2) && decide (slot = (k : Int))) D j (k : Int) (by rw [unhide HNN]; exact hlj))
              have hjI : (j : Int) < (N : Int) := by omega
              generalize (D.getD j St.z).key = ky at *
              generalize tbj (decide (kind = 2) && decide (slot = (k : Int))) D j (k : Int) = T at *
              clear hb
              cases T
              · go_wp2_with (go_at_call 21; refine (specMapSlot_any _ _).mono ?_; rintro e w' ⟨rfl, rfl⟩)
                go_roundw
                case rel => exact ⟨j + 1, hlj, by go_num, ret_bool2 (by rw [unhide HJ, Bool.false_or]; first | rfl | (rw [Bool.eq_iff_iff]; simp)), unhide HBJ⟩
                case measure => simp [intOf]; omega
              · go_wp2_with fail
                go_roundw
                case rel => exact ⟨j + 1, hlj, by go_num, ret_bool2 (by rw [unhide HJ]; simp), unhide HBJ⟩
                case measure => simp [intOf]; omega
            · have hjI : ¬ (j : Int) < (N : Int) := by omega
              have hal := unhide HAL j (by rw [unhide HNN]; omega)
              rw [hal]
              clear hal
              generalize tb (decide (kind = 2)) slot D (k : Int) = T at *
              cases T
              · go_wp2_with fail
                go_roundw
                case rel =>
                  refine ⟨k + 1, hlt, by go_num, ?_, unhide HOB, (unhide HXR).kept hb, (unhide HSR).kept hb, (unhide HBR).trans (hb.mono hzr), by omega⟩
                  rw [unhide HSU]; simpa using ownsRow_below (unhide HOW) hb
                case measure => simp [intOf]; omega
              · have HOJ := hide (ownsRow_below (unhide HOW) hb)
                have htl := unhide HTL
                generalize tbs (decide (kind = 2)) slot D k = F at *
                have HFB := hide ((unhide HBR).trans (hb.mono hzr))
                have HXJ := hide ((unhide HXR).kept hb)
                have HSJ := hide ((unhide HSR).kept hb)
                clear hb HBJ
                rename World => wj
                go_wp2_with (at_builtin; refine wpList_append_lies _ rfl _ _ 26 rfl (w.heap.size + 1) 3 i0 (.int .i64 0) 1 8 Tryz.underlying26 hi hz0 hz1 hz2 rfl (by decide) _ F.length _ rfl ((unhide HOJ).alloc _) ⟨wj.heap.size, 0, none⟩ 1 1 [.int .i64 (k : Int)] rfl rfl (World.news_of_block (heap_alloc_new _ _)) (by simp [Value.oneCell']) (by decide) (by unfold maxLen; omega) (by omega) (by simp; omega) (wj.heap.size + 1) (by simp) ?_; intro ga cp w9 hown2 hgrow hat hlt2)
                have hq9 := fun q hq => ((unhide HOJ).lt q hq)
                have bC : Below wj.heap.size wj (wj.alloc (.cells #[.int .i64 (k : Int)] 3)) := (Below.refl _ _).alloc (Nat.le_refl _) _
                go_roundw
                case rel =>
                  refine ⟨k + 1, hlt, by go_num, ?_, ?_, ((unhide HXJ).kept bC).far hgrow ?_, ((unhide HSJ).kept bC).far hgrow ?_, Below.grown ((unhide HFB).alloc (unhide HFB).size _) hgrow (by simp; omega) (fun q hq => by have := (hq9 q hq).1; omega), by have := hgrow.size; simp at this; omega⟩
                  · rw [unhide HSU, List.map_append, List.length_append]; exact hown2
                  · intro q hq
                    have hq' : ga = q := by simpa [Value.ownBlock] using hq
                    rcases hat with e | e
                    · exact unhide HOB q (e.trans (by rw [hq']))
                    · omega
                  · intro e; have := (hq9 _ e.symm).1; omega
                  · cases hq : (Value.slice a2 N c2).ownBlock with
                    | none => exact .inl rfl
                    | some q => right; intro e; have h1 := unhide E2 q hq; have h2 := unhide HOB q e.symm; omega
                case measure => simp [intOf]; omega
      · have hk2' : (kind == 2) = false := by simpa using hk2
        have HB0 : Hid ((decide (kind = 2) && decide (slot = (k : Int))) = false) := by show _ = _; simp [hk2]
        clear hk2
        go_wp2_with fail
        go_loopw [7, 8] (fun q i wr => ∃ j : Nat, j ≤ N ∧ i = .int .i64 j ∧ q = .bool (tbj (decide (kind = 2) && decide (slot = (k : Int))) D j k) ∧ Below wo.heap.size wo wr) (fun _ i _ => N - (intOf i).toNat)
        case atStart => exact ⟨0, Nat.zero_le _, rfl, by rw [tbj_zero, unhide HB0], Below.refl _ _⟩
        case round =>
          obtain ⟨j, hj, rfl, rfl, hb⟩ := hrel
          have HBJ := hide hb
          have hzj := hb.size
          by_cases hlj : j < N
          · obtain ⟨b, off, rfl, ck⟩ := st_key ((unhide HSR).kept hb) (i := j) (by rw [unhide HNN]; exact hlj)
            have HJ := hide (tbj_succ (decide (kind = 2) && decide (slot = (k : Int))) D j (k : Int) (by rw [unhide HNN]; exact hlj))
            have hjI : (j : Int) < (N : Int) := by omega
            generalize (D.getD j St.z).key = ky at *
            generalize tbj (decide (kind = 2) && decide (slot = (k : Int))) D j (k : Int) = T at *
            clear hb
            cases T
            · go_wp2_with (go_at_call 21; refine (specMapSlot_any _ _).mono ?_; rintro e w' ⟨rfl, rfl⟩)
              go_roundw
              case rel => exact ⟨j + 1, hlj, by go_num, ret_bool2 (by rw [unhide HJ, Bool.false_or]; first | rfl | (rw [Bool.eq_iff_iff]; simp)), unhide HBJ⟩
              case measure => simp [intOf]; omega
            · go_wp2_with fail
              go_roundw
              case rel => exact ⟨j + 1, hlj, by go_num, ret_bool2 (by rw [unhide HJ]; simp), unhide HBJ⟩
              case measure => simp [intOf]; omega
          · have hjI : ¬ (j : Int) < (N : Int) := by omega
            have hal := unhide HAL j (by rw [unhide HNN]; omega)
            rw [hal]
            clear hal
            generalize tb (decide (kind = 2)) slot D (k : Int) = T at *
            cases T
            · go_wp2_with fail
              go_roundw
              case rel =>
                refine ⟨k + 1, hlt, by go_num, ?_, unhide HOB, (unhide HXR).kept hb, (unhide HSR).kept hb, (unhide HBR).trans (hb.mono hzr), by omega⟩
                rw [unhide HSU]; simpa using ownsRow_below (unhide HOW) hb
              case measure => simp [intOf]; omega
            · have HOJ := hide (ownsRow_below (unhide HOW) hb)
              have htl := unhide HTL
              generalize tbs (decide (kind = 2)) slot D k = F at *
              have HFB := hide ((unhide HBR).trans (hb.mono hzr))
              have HXJ := hide ((unhide HXR).kept hb)
              have HSJ := hide ((unhide HSR).kept hb)
              clear hb HBJ
              rename World => wj
              go_wp2_with (at_builtin; refine wpList_append_lies _ rfl _ _ 26 rfl (w.heap.size + 1) 3 i0 (.int .i64 0) 1 8 Tryz.underlying26 hi hz0 hz1 hz2 rfl (by decide) _ F.length _ rfl ((unhide HOJ).alloc _) ⟨wj.heap.size, 0, none⟩ 1 1 [.int .i64 (k : Int)] rfl rfl (World.news_of_block (heap_alloc_new _ _)) (by simp [Value.oneCell']) (by decide) (by unfold maxLen; omega) (by omega) (by simp; omega) (wj.heap.size + 1) (by simp) ?_; intro ga cp w9 hown2 hgrow hat hlt2)
              have hq9 := fun q hq => ((unhide HOJ).lt q hq)
              have bC : Below wj.heap.size wj (wj.alloc (.cells #[.int .i64 (k : Int)] 3)) := (Below.refl _ _).alloc (Nat.le_refl _) _
              go_roundw
              case rel =>
                refine ⟨k + 1, hlt, by go_num, ?_, ?_, ((unhide HXJ).kept bC).far hgrow ?_, ((unhide HSJ).kept bC).far hgrow ?_, Below.grown ((unhide HFB).alloc (unhide HFB).size _) hgrow (by simp; omega) (fun q hq => by have := (hq9 q hq).1; omega), by have := hgrow.size; simp at this; omega⟩
                · rw [unhide HSU, List.map_append, List.length_append]; exact hown2
                · intro q hq
                  have hq' : ga = q := by simpa [Value.ownBlock] using hq
                  rcases hat with e | e
                  · exact unhide HOB q (e.trans (by rw [hq']))
                  · omega
                · intro e; have := (hq9 _ e.symm).1; omega
                · cases hq : (Value.slice a2 N c2).ownBlock with
                  | none => exact .inl rfl
                  | some q => right; intro e; have h1 := unhide E2 q hq; have h2 := unhide HOB q e.symm; omega
              case measure => simp [intOf]; omega
    · obtain rfl : k = 8 := by omega
      have e8 := unhide HY (by first | rfl | trivial)
      go_wp2_with fail
      go_ret
      refine ⟨⟨_, rfl, ?_⟩, unhide HBR⟩
      rw [e8]; exact ownsRow_base (unhide HOW) (by omega)

end Go.Proofs.YtedlhepbbefikaaGreatDoor
