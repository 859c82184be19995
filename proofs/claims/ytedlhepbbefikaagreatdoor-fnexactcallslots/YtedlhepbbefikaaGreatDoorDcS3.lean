/- Texts cut at a byte, and numbers read: the specification's way. -/
import Derived.Test.YtedlhepbbefikaaGreatDoorDcS2
import Derived.Test.YtedlhepbbefikaaGreatDoorDcM0
import Derived.Test.YtedlhepbbefikaaGreatDoorRw
import Derived.Test.YtedlhepbbefikaaGreatDoorHkA
import Derived.Lib.CutLaws
namespace Go.Proofs.YtedlhepbbefikaaGreatDoor
open Go.RowKit

/-- A text as a cell. -/
def sxE (l : List UInt8) : List Value := [.string ⟨l.toArray⟩]
theorem sxE_len (l : List UInt8) : (sxE l).length = 1 := rfl
theorem Tryz.infoStr : (Tryz.prog.info? 9).map (fun i => (i.zero, i.size, i.bytes)) = some (some (.string ByteArray.empty), 1, 16) := by kernel_rfl

theorem extract_list (S : ByteArray) (a b : Nat) : S.extract a b = ⟨((S.data.toList.drop a).take (b - a)).toArray⟩ := by
  have h := Lib.extract_data S a b
  apply ByteArray.ext
  apply Array.toList_inj.1
  rw [h]

theorem getElem_list (S : ByteArray) (i : Nat) (h : i < S.size) : S.data.toList[i]? = some S[i] := by
  rw [List.getElem?_eq_getElem (by simpa using h)]; rfl

theorem drop_at {l : List UInt8} {i : Nat} {c : UInt8} (h : l[i]? = some c) : l.drop i = c :: l.drop (i + 1) := by
  obtain ⟨hi, he⟩ := List.getElem?_eq_some_iff.1 h
  rw [List.drop_eq_getElem_cons hi, he]

/-- Between two places no such byte stands. -/
def freeL (c : UInt8) (l : List UInt8) (f i : Nat) : Prop := ∀ j, f ≤ j → j < i → l[j]? ≠ some c
theorem freeL_step {c : UInt8} {l : List UInt8} {f i : Nat} (h : freeL c l f i) {d : UInt8} (hd : l[i]? = some d) (hne : d ≠ c) : freeL c l f (i + 1) := fun j h1 h2 => by
  by_cases e : j = i
  · subst e; rw [hd]; intro e; injection e with e; exact hne e
  · exact h j h1 (by omega)
theorem freeL_take {c : UInt8} {l : List UInt8} {f i : Nat} (h : freeL c l f i) : c ∉ (l.drop f).take (i - f) := by
  intro hm
  obtain ⟨k, hk, he⟩ := List.mem_iff_getElem.1 hm
  have hk' : k < i - f := by simp at hk; omega
  have : (((l.drop f).take (i - f)))[k]? = some c := by rw [List.getElem?_eq_getElem hk, he]
  rw [List.getElem?_take_of_lt hk', List.getElem?_drop] at this
  exact h (f + k) (by omega) (by omega) this
theorem cutL_here {c : UInt8} {l : List UInt8} {f i : Nat} (hf : f ≤ i) (h : freeL c l f i) (hc : l[i]? = some c) : cutL c (l.drop f) = (l.drop f).take (i - f) :: cutL c (l.drop (i + 1)) := by
  have e : l.drop f = (l.drop f).take (i - f) ++ c :: l.drop (i + 1) := by
    have h1 := List.take_append_drop (i - f) (l.drop f)
    rw [List.drop_drop, show f + (i - f) = i by omega, drop_at hc] at h1
    exact h1.symm
  exact (congrArg (cutL c) e).trans (cutL_app (freeL_take h))
theorem cutL_end {c : UInt8} {l : List UInt8} {f : Nat} (h : freeL c l f l.length) : cutL c (l.drop f) = [l.drop f] := by
  apply cutL_none
  have := freeL_take h
  rwa [List.take_of_length_le (by simp)] at this

set_option maxRecDepth 100000 in
set_option maxHeartbeats 1000000 in
theorem l1Cut_any (S : ByteArray) (c : UInt8) (w : World) (hS : S.size ≤ 1000) :
    Calls Tryz.prog 36 #[.string S, .int .u8 c.toNat] w fun e w' => ∃ r, e = .returned r ∧ w'.ownsRow w.heap.size 9 1 r (cutL c S.data.toList).length ((cutL c S.data.toList).flatMap sxE) ∧ Below w.heap.size w w' := by
  obtain ⟨i0, hi, hz0, hz1, hz2⟩ := info_parts Tryz.infoStr
  have hlen : S.data.toList.length = S.size := by simp
  have hcl := cutL_length_le c S.data.toList
  rw [hlen] at hcl
  obtain ⟨l, hl⟩ : ∃ l, l = S.data.toList := ⟨_, rfl⟩
  have HL := hide hl
  rw [← hl] at hlen hcl ⊢
  have HLEN := hide hlen
  obtain ⟨C, hC⟩ : ∃ C, C = cutL c l := ⟨_, rfl⟩
  have HC := hide hC
  rw [← hC] at hcl ⊢
  clear hl hC hlen
  go_enter Tryz.func36, Tryz.ntmps36
  go_wp2_with fail
  go_loopw [5, 6, 7] (fun r f i wr => ∃ (k q : Nat) (done : List (List UInt8)), k ≤ S.size ∧ q ≤ k ∧ i = .int .i64 k ∧ f = .int .i64 q ∧ wr.ownsRow w.heap.size 9 1 r done.length (done.flatMap sxE) ∧ Below w.heap.size w wr ∧ C = done ++ cutL c (l.drop q) ∧ freeL c l q k) (fun _ _ i _ => S.size - (intOf i).toNat)
  case atStart =>
    refine ⟨0, 0, [], Nat.zero_le _, Nat.le_refl _, rfl, rfl, ?_, (Below.refl _ _).alloc (Nat.le_refl _) _, ?_, fun j _ h => absurd h (Nat.not_lt_zero _)⟩
    · exact World.ownsRow_made (w := w) (base := w.heap.size) (e := 9) (size := 1) #[] 0 (by simp) (by simp [maxLen]) (by simp)
    · rw [unhide HC]; rfl
  case round =>
    obtain ⟨k, q, done, hk, hq, rfl, rfl, hown, hb, hcd, hfr⟩ := hrel
    have HOW := hide hown
    have HB := hide hb
    have HFR := hide hfr
    have hsz := hb.size
    have hdl : done.length ≤ 1001 := by have := congrArg List.length hcd; rw [List.length_append] at this; omega
    have HCD := hide hcd
    have hblk := (OwnK.of_own hown).blk
    have HBLK := hide hblk
    clear hown hb hfr hcd hblk
    generalize hdn : done.length = dn at *
    have HDN := hide hdn
    clear hdn
    by_cases hlt : k < S.size
    · have hkI : (k : Int) < (S.size : Int) := by omega
      have hat := getElem_list S k hlt
      rw [← unhide HL] at hat
      generalize hx : S[k] = x at *
      have hx' : S[k]'hlt = x := hx
      by_cases hxc : x = c
      · subst hxc
        have HHE := hide (cutL_here hq (unhide HFR) hat)
        have HEX := hide (extract_list S q k)
        rw [← unhide HL] at HEX
        have hqs : q ≤ S.size := by omega
        clear hat hx
        go_wp2_with (at_builtin; refine wpList_append_lies _ rfl _ _ 53 rfl w.heap.size 9 i0 (.string ByteArray.empty) 1 16 Tryz.underlying53 hi hz0 hz1 hz2 rfl (by decide) _ dn _ rfl ((unhide HOW).alloc _) ⟨wr.heap.size, 0, none⟩ 1 1 [.string (S.extract q k)] rfl rfl (World.news_of_block (heap_alloc_new _ _)) (by simp [Value.oneCell']) (by decide) (by unfold maxLen; omega) (by omega) (by simp; omega) _ rfl ?_; intro g2 c2 w2 hown2 hg2 _ _)
        go_roundw
        case rel =>
          refine ⟨k + 1, k + 1, done ++ [(l.drop q).take (k - q)], hlt, Nat.le_refl _, by go_num, by go_num, ?_, ?_, ?_, fun j h1 h2 => by omega⟩
          · have e1 : (done ++ [(l.drop q).take (k - q)]).length = dn + 1 := by rw [List.length_append, unhide HDN]; rfl
            have e2 : (done ++ [(l.drop q).take (k - q)]).flatMap sxE = done.flatMap sxE ++ [.string (S.extract q k)] := by rw [List.flatMap_append, unhide HEX]; rfl
            rw [e1, e2]; exact hown2
          · exact Below.grown ((unhide HB).alloc (unhide HB).size _) hg2 (by have := (unhide HB).size; simp; omega) (fun z hz => (unhide HBLK).low z hz)
          · rw [unhide HCD, unhide HHE]; simp
        case measure => simp [intOf]; omega
      · have hne : ¬ (x.toNat : Int) = (c.toNat : Int) := fun e => hxc (UInt8.toNat_inj.1 (by omega))
        have HST := hide (freeL_step (unhide HFR) hat hxc)
        clear hat hx hxc
        go_wp2_with fail
        go_roundw
        case rel => exact ⟨k + 1, q, done, hlt, by omega, by go_num, rfl, by rw [unhide HDN]; exact unhide HOW, unhide HB, unhide HCD, unhide HST⟩
        case measure => simp [intOf]; omega
    · obtain rfl : k = S.size := by omega
      have HEX := hide (extract_list S q S.size)
      rw [← unhide HL] at HEX
      have hfr : freeL c l q l.length := by rw [unhide HLEN]; exact unhide HFR
      have HEN := hide (cutL_end hfr)
      clear hfr
      go_wp2_with (at_builtin; refine wpList_append_lies _ rfl _ _ 53 rfl w.heap.size 9 i0 (.string ByteArray.empty) 1 16 Tryz.underlying53 hi hz0 hz1 hz2 rfl (by decide) _ dn _ rfl ((unhide HOW).alloc _) ⟨wr.heap.size, 0, none⟩ 1 1 [.string (S.extract q S.size)] rfl rfl (World.news_of_block (heap_alloc_new _ _)) (by simp [Value.oneCell']) (by decide) (by unfold maxLen; omega) (by omega) (by simp; omega) _ rfl ?_; intro g2 c2 w2 hown2 hg2 _ _)
      go_ret
      have e0 : C = done ++ [l.drop q] := by rw [unhide HCD, unhide HEN]
      have e1 : C.length = dn + 1 := by rw [e0, List.length_append, unhide HDN]; rfl
      have e3 : (l.drop q).take (S.size - q) = l.drop q := List.take_of_length_le (by rw [List.length_drop, unhide HLEN]; exact Nat.le_refl _)
      have e2 : C.flatMap sxE = done.flatMap sxE ++ [.string (S.extract q S.size)] := by rw [e0, List.flatMap_append, unhide HEX, e3]; rfl
      refine ⟨_, rfl, ?_, ?_⟩
      · rw [e1, e2]; exact hown2
      · exact Below.grown ((unhide HB).alloc (unhide HB).size _) hg2 (by have := (unhide HB).size; simp; omega) (fun z hz => (unhide HBLK).low z hz)

end Go.Proofs.YtedlhepbbefikaaGreatDoor
