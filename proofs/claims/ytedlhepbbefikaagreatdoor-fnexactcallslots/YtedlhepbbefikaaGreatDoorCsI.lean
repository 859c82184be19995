/- The program's CallSlots. -/
import Derived.Test.YtedlhepbbefikaaGreatDoorCsS
import Derived.Test.YtedlhepbbefikaaGreatDoorMapI
import Derived.Test.YtedlhepbbefikaaGreatDoorPutK
namespace Go.Proofs.YtedlhepbbefikaaGreatDoor
open Go.RowKit Go.Sort

/-- The slots of the statements' keys, one behind the other. -/
def keySlots (D : List St) : List Int := D.map fun x => slotOf x.key
theorem keySlots_len (D : List St) : (keySlots D).length = D.length := by simp [keySlots]
theorem keySlots_range {D : List St} (h : dealOk D = true) : ∀ x ∈ keySlots D, 0 ≤ x ∧ x ≤ 7 := by
  intro x hx
  obtain ⟨s, hs, rfl⟩ := List.mem_map.1 hx
  have := stOk_bds (List.all_eq_true.1 (dealOk_all h) s hs)
  exact slotOf_range (by unfold keyB inB; simp; omega)
theorem keySlots_take {D : List St} {j : Nat} (h : j < D.length) : keySlots (D.take (j + 1)) = keySlots (D.take j) ++ [slotOf (D.getD j St.z).key] := by
  unfold keySlots
  rw [List.take_succ_eq_append_getElem h, List.map_append]
  simp [List.getD, h]
theorem slotsC_deal {c : Cl} {D : List St} (hc : callB c = true) (h1 : c.kind = 1) (hr : readL c.text = some D) : slotsC c = slotsL (keySlots D) := by
  unfold slotsC; rw [if_pos hc, hr]
  simp only [h1, Option.getD_some]
  exact tb_deal c.slot D
theorem callB_kind {c : Cl} (h : callB c = true) : (c.kind = 1 ∧ ∃ D, readL c.text = some D ∧ dealOk D = true) ∨ (c.kind = 2 ∧ slB c.slot = true ∧ readL c.text = none) := by
  unfold callB formB at h
  by_cases hk : c.kind = 1
  · left
    refine ⟨hk, ?_⟩
    simp only [hk, ne_eq, not_true_eq_false, decide_false, Bool.false_or, Bool.and_eq_true] at h
    obtain ⟨D, hD⟩ := Option.isSome_iff_exists.1 h.2
    exact ⟨D, hD, (readL_some hD).2.1⟩
  · right
    rw [if_neg hk] at h
    simp only [Bool.and_eq_true, decide_eq_true_eq] at h
    obtain ⟨⟨-, ⟨⟨h2, h3⟩, h4⟩, -⟩, -⟩ := h
    exact ⟨h2, h4, by rw [h3]; exact readL_nil⟩
theorem slotsC_move {c : Cl} (hc : callB c = true) (h2 : c.kind = 2) : slotsC c = [c.slot] := by
  rcases callB_kind hc with ⟨h1, -⟩ | ⟨-, hs, hn⟩
  · omega
  · unfold slotsC; rw [if_pos hc, hn]
    simp only [h2, decide_true, Option.getD_none]
    exact tb_move c.slot hs
theorem slots_sorted {c : Cl} {D : List St} (hc : callB c = true) (h1 : c.kind = 1) (hr : readL c.text = some D) (hd : dealOk D = true) : Lib.compact ((keySlots D).mergeSort fun x y => decide (x ≤ y)) = slotsC c := by
  rw [slotsC_deal hc h1 hr]; exact compact_sort _ (keySlots_range hd)
theorem compact_le (zs : List Int) : (Lib.compact zs).length ≤ zs.length := by
  unfold Lib.compact Lib.compactUpTo
  rw [List.length_map]
  exact Nat.le_trans (List.length_filter_le _ _) (by simp)

set_option maxRecDepth 100000 in
set_option maxHeartbeats 4000000 in
theorem iCallSlots_any (c : Cl) (w : World) (hg : GW w) :
    Calls Tryz.prog 7 #[.agg (clC c)] w fun e w' => (∃ r, e = .returned r ∧ w'.ownsRow w.heap.size 3 1 r (slotsC c).length ((slotsC c).map (Value.int .i64))) ∧ Below w.heap.size w w' := by
  have HG := hide hg
  have HOK := hide (fun ww h => iCallOk_any c ww h)
  have HRD := hide (fun ww h => iRead_any c.text ww h)
  have HT := hide (fun e w base (h : DRes e w base c.text) => h.tell)
  have HN := hide (fun (h : callB c = false) => slotsC_no h)
  have HM := hide (fun (h : callB c = true) (h2 : c.kind = 2) => slotsC_move h h2)
  have HK := hide (fun (h : callB c = true) => callB_kind h)
  have HS := hide (fun (h : callB c = true) (h1 : c.kind = 1) D (hr : readL c.text = some D) (hd : dealOk D = true) => slots_sorted h h1 hr hd)
  obtain ⟨i0, hi, hz0, hz1, hz2⟩ := info_parts Tryz.infoI1
  generalize slotsC c = R at *
  generalize callB c = B at *
  obtain ⟨sess, num, kind, text, slot, dst⟩ := c
  simp only [clC] at *
  have HX := hide (Box.made w 24 #[.int .i64 sess, .int .i64 num, .int .i64 kind, .string ⟨text.toArray⟩, .int .i64 slot, .int .i64 dst])
  have HA := hide ((Below.refl w.heap.size w).alloc (Nat.le_refl _) (.cells #[.int .i64 sess, .int .i64 num, .int .i64 kind, .string ⟨text.toArray⟩, .int .i64 slot, .int .i64 dst] 24))
  clear hg
  go_enter Tryz.func7, Tryz.ntmps7
  go_wp2_with fail
  refine (unhide HOK _ ((unhide HG).kept (unhide HA))).mono ?_; rintro e w1 ⟨rfl, hb1⟩
  have HB1 := hide ((unhide HA).trans (hb1.mono (unhide HA).size))
  have HX1 := hide ((unhide HX).kept hb1)
  clear hb1 HX HA
  obtain ⟨q0, q1, q2, q3, q4, q5⟩ : _ ∧ _ ∧ _ ∧ _ ∧ _ ∧ _ := ⟨(unhide HX1).cell 0, (unhide HX1).cell 1, (unhide HX1).cell 2, (unhide HX1).cell 3, (unhide HX1).cell 4, (unhide HX1).cell 5⟩
  simp only [List.getElem?_toArray, List.getElem?_cons_zero, List.getElem?_cons_succ] at q0 q1 q2 q3 q4 q5
  cases B
  · go_wp2_with fail
    go_ret
    refine ⟨⟨_, rfl, ?_⟩, unhide HB1⟩
    rw [unhide HN (by first | rfl | trivial)]; exact World.ownsRow_nil _ _ _ _
  rcases unhide HK (by first | rfl | trivial) with ⟨hk1, D, hrd, hdk⟩ | ⟨hk2, hsl, -⟩
  case inr =>
    have hk' : (kind == 2) = true := by simpa using hk2
    have HR := hide (unhide HM (by first | rfl | trivial) hk2)
    have hzz := (unhide HB1).size
    go_wp2_with fail
    go_ret
    refine ⟨⟨_, rfl, ?_⟩, (unhide HB1).alloc (by have := (unhide HB1).size; omega) _⟩
    rw [unhide HR]
    exact ⟨by simp, .inr ⟨w1.heap.size, 1, #[.int .i64 slot], rfl, hzz, heap_alloc_new _ _, Nat.le_refl _, by simp [maxLen], rfl, rfl⟩⟩
  have hk1' : kind = 1 := hk1
  have hk' : (kind == 2) = false := by rw [hk1']; rfl
  clear hk1'
  have HSO := hide (unhide HS (by first | rfl | trivial) hk1 D hrd hdk)
  have HDL := hide (dealOk_num hdk)
  have HTR : Hid ((readL text).getD [] = D) := by show (readL text).getD [] = D; rw [show readL text = some D from hrd]; rfl
  go_wp2_with fail
  refine (unhide HRD _ ((unhide HG).kept (unhide HB1))).mono ?_; rintro e w2 ⟨hR2, hb2⟩
  obtain ⟨r2, rfl, o2⟩ := unhide HT _ _ _ hR2
  try simp only at o2
  rw [unhide HTR] at o2
  have HB2 := hide ((unhide HB1).trans (hb2.mono (unhide HB1).size))
  have HST := hide (sts_of_row (RowAt.of_own o2))
  obtain ⟨a2, c2, hr2, hcap2⟩ := ownsRow_slice o2
  subst hr2
  clear hb2 hR2 o2 q0 q1 q2 q3 q4 q5 HX1 HB1 hcap2 hrd HK HS HM HN HOK HRD HT
  have HKL := hide (keySlots_len D)
  generalize hn : D.length = N at *
  have HNN := hide hn
  clear hn
  obtain ⟨hN1, hN6⟩ : 1 ≤ N ∧ N ≤ 6 := unhide HDL
  go_wp2_with fail
  go_loopw [5, 25] (fun r i wr => ∃ j : Nat, j ≤ N ∧ i = .int .i64 j ∧ wr.ownsRow w2.heap.size 3 1 r (keySlots (D.take j)).length ((keySlots (D.take j)).map (Value.int .i64)) ∧ Below w2.heap.size w2 wr) (fun _ i _ => N - (intOf i).toNat)
  case atStart => exact ⟨0, Nat.zero_le _, rfl, World.ownsRow_nil _ _ _ _, Below.refl _ _⟩
  case round =>
    obtain ⟨j, hj, rfl, hown, hb⟩ := hrel
    have hkl : (keySlots (D.take j)).length = j := by rw [keySlots_len, List.length_take, unhide HNN]; omega
    rw [hkl] at hown
    have HOW := hide hown
    have HBR := hide hb
    have hzr := hb.size
    by_cases hlt : j < N
    · obtain ⟨b, off, e2, d0, d1, d2⟩ := sts_cells3 ((unhide HST).kept hb) (i := j) (by rw [unhide HNN]; exact hlt)
      cases e2
      have HKT := hide (keySlots_take (D := D) (j := j) (by rw [unhide HNN]; exact hlt))
      have hjI : (j : Int) < (N : Int) := by omega
      generalize D.getD j St.z = x at *
      generalize keySlots (D.take j) = F at *
      clear hown hb
      go_wp2_with (first | (go_at_call 12; refine (implSlot_any _ _).mono ?_; rintro e w' ⟨rfl, rfl⟩) | (at_builtin; refine wpList_append_lies _ rfl _ _ 26 rfl w2.heap.size 3 i0 (.int .i64 0) 1 8 Tryz.underlying26 hi hz0 hz1 hz2 rfl (by decide) _ j _ rfl (((unhide HOW).alloc _).alloc _) ⟨wr.heap.size + 1, 0, none⟩ 1 1 [.int .i64 (slotOf x.key)] rfl rfl (World.news_of_block (heap_alloc2_new _ _ _)) (by simp [Value.oneCell']) (by decide) (by unfold maxLen; omega) (by omega) (by simp; omega) (wr.heap.size + 2) (by simp) ?_; intro ga cp w9 hown2 hgrow hat hlt2))
      go_roundw
      case rel =>
        refine ⟨j + 1, hlt, by go_num, ?_, Below.grown (((unhide HBR).alloc hzr _).alloc (by simp; omega) _) hgrow (by simp; omega) (fun q hq => ((unhide HOW).lt q hq).1)⟩
        rw [unhide HKT, List.map_append, List.length_append, hkl]; exact hown2
      case measure => simp [intOf]; omega
    · obtain rfl : j = N := by omega
      have hfull : D.take j = D := List.take_of_length_le (by rw [unhide HNN]; omega)
      rw [hfull] at hown hkl
      obtain ⟨a3, c3, rfl, h3⟩ := ownsRow_slice hown
      rcases h3 with h3 | ⟨g3, rfl, hg3, hlt3⟩
      · omega
      have HSR := hide (Tryz.slices_Sort_int g3 0 c3 (keySlots D) wr (holds_own hown) hlt3 (by omega))
      have hsl := List.length_mergeSort (le := fun x y : Int => decide (x ≤ y)) (keySlots D)
      rw [hkl] at hsl
      generalize (keySlots D).mergeSort (fun x y => decide (x ≤ y)) = Z at *
      have HO3 := hide hown
      rw [hkl] at HSR
      have HBT := hide ((unhide HB2).trans (hb.mono (unhide HB2).size))
      clear hown hb
      go_wp2_with fail
      refine (unhide HSR).mono ?_; rintro e w4 ⟨rfl, n4, os4, rfl⟩
      have HO4 := hide (grow_own (putRow_own (q := n4) (unhide HO3) (ys := Z) hsl) os4)
      have HB4 := hide (below_grow (below_putRow (unhide HBT) (g := g3) (by have := (unhide HB2).size; omega) n4 0 Z.toArray) (by simp [Sort.ahead]; have := (unhide HBT).size; omega) os4)
      generalize grow (putRow (Value.int .i64) (Sort.ahead wr n4) g3 0 Z.toArray) os4 = w4 at *
      obtain ⟨-, -, -, -, hcap3, -⟩ := own_parts (unhide HO4)
      have HCP := hide (Tryz.slices_Compact_int g3 0 c3 Z w4 (holds_own (unhide HO4)) (by omega) (by omega))
      rw [hsl] at HCP
      go_wp2_with fail
      refine (unhide HCP).mono ?_; rintro e w5 ⟨rfl, q5, rfl⟩
      go_wp2_with fail
      go_ret
      refine ⟨⟨_, rfl, ?_⟩, ?_⟩
      · rw [← unhide HSO]
        have := own_compact (q := q5) (unhide HO4) hsl (compact_le Z)
        rw [hsl] at this
        exact ownsRow_base this (by have := (unhide HB2).size; omega)
      · exact below_putRow (unhide HB4) (by have := (unhide HB2).size; omega) _ _ _

end Go.Proofs.YtedlhepbbefikaaGreatDoor
