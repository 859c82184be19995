/- Deals read: the program's way. -/
import Derived.Test.YtedlhepbbefikaaGreatDoorDcI5
import Derived.Test.YtedlhepbbefikaaGreatDoorDcM2
namespace Go.Proofs.YtedlhepbbefikaaGreatDoor
open Go.RowKit

def stE (x : St) : List Value := [.int .i64 x.op, .int .i64 x.key, .int .i64 x.num]
theorem stE_len (x : St) : (stE x).length = 3 := rfl
theorem sts_of_row {w : World} {v : Value} {ss : List St} (h : RowAt stE w v ss) : StsAt w v ss := by
  have h' := h
  obtain ⟨a, cap, rfl, h1, h2, h3⟩ := h
  refine ⟨a, cap, rfl, h1, h2, ?_⟩
  rcases h3 with h3 | ⟨b, off, rfl, hc⟩
  · exact .inl h3
  · refine .inr ⟨b, off, rfl, fun i hi => ⟨?_, ?_, ?_⟩⟩
    · have := h'.cellsAt stE_len St.z hi (f := 0) (u := .int .i64 (ss.getD i St.z).op) rfl; simpa using this
    · have := h'.cellsAt stE_len St.z hi (f := 1) (u := .int .i64 (ss.getD i St.z).key) rfl; simpa [Nat.add_assoc] using this
    · have := h'.cellsAt stE_len St.z hi (f := 2) (u := .int .i64 (ss.getD i St.z).num) rfl; simpa [Nat.add_assoc] using this

theorem flat_sx : ∀ (C : List (List UInt8)), C.flatMap sxE = C.map fun p => Value.string ⟨p.toArray⟩
  | [] => rfl
  | x :: r => by rw [List.flatMap_cons, flat_sx r, List.map_cons]; rfl

theorem split_any (l : List UInt8) (c : UInt8) (w : World) (h : GW w) (hl : l.length ≤ 1000) :
    Calls Tryz.prog 43 #[.string ⟨l.toArray⟩, .string ⟨#[c]⟩] w fun e w' => e = .returned (.slice (some ⟨w.heap.size, 0, none⟩) (cutL c l).length (cutL c l).length) ∧ RowAt sxE w' (.slice (some ⟨w.heap.size, 0, none⟩) (cutL c l).length (cutL c l).length) (cutL c l) ∧ Below w.heap.size w w' := by
  obtain ⟨m, hm⟩ := h.mx
  have hs : (⟨l.toArray⟩ : ByteArray).size = l.length := by simp [ByteArray.size]
  refine (Tryz.strings_Split ⟨l.toArray⟩ ⟨#[c]⟩ m w (by omega) hm (by simp [ByteArray.size])).mono ?_
  rintro e w' ⟨rfl, rfl⟩
  have hle := cutL_length_le c l
  have he := countB_cut c l
  have hi : ((Lib.countB ⟨l.toArray⟩ ⟨#[c]⟩ : Nat) : Int) + 1 = ((cutL c l).length : Int) := by omega
  refine ⟨?_, ⟨_, _, rfl, Nat.le_refl _, by unfold maxLen; omega, .inr ⟨_, 0, rfl, fun j u hu => ?_⟩⟩, (Below.refl _ _).alloc (Nat.le_refl _) _⟩
  · first | rw [he] | rw [hi] | skip
  · rw [Nat.zero_add, cell_of_row _ _ j _ _ _ (heap_alloc_new _ _), splitB_cut]
    rw [flat_sx] at hu
    simpa using hu

theorem trimSuffix_le (t p : List UInt8) : (Lib.trimSuffix t p).length ≤ t.length := by
  unfold Lib.trimSuffix; split
  · rw [List.length_take]; omega
  · exact Nat.le_refl _

/-- What readStatements answers. -/
def StsR (w : World) (base : Nat) (t : List UInt8) (r : Value) (b : Bool) : Prop := (b = true ∧ ∃ D, parseI t = some D ∧ w.ownsRow base 35 3 r D.length (D.flatMap stE)) ∨ (b = false ∧ parseI t = none ∧ r = .slice none 0 0)

def StsRes (e : Ending) (w : World) (base : Nat) (t : List UInt8) : Prop := ∃ (r : Value) (b : Bool), e = .returned (.tuple #[r, .bool b]) ∧ StsR w base t r b

set_option maxRecDepth 100000 in
set_option maxHeartbeats 4000000 in
theorem readSts_any (t : List UInt8) (w : World) (hg : GW w) (ht : t.length ≤ 80) :
    Calls Tryz.prog 29 #[.string ⟨t.toArray⟩] w fun e w' => StsRes e w' w.heap.size t ∧ Below w.heap.size w w' := by
  have HG := hide hg
  have hts : (⟨t.toArray⟩ : ByteArray).size = t.length := by simp [ByteArray.size]
  have HCS := hide (fun ww => Tryz.strings_CutSuffix ⟨t.toArray⟩ ⟨#[59]⟩ ww (by omega))
  have HPI : Hid (parseI t = if Lib.hasSuffix t [59] = true then stsI (cutL 59 (Lib.trimSuffix t [59])) else none) := rfl
  have hbl := trimSuffix_le t [59]
  have e1 : Lib.trimSuffix (⟨t.toArray⟩ : ByteArray).data.toList (⟨#[59]⟩ : ByteArray).data.toList = Lib.trimSuffix t [59] := by simp
  have e2 : Lib.hasSuffix (⟨t.toArray⟩ : ByteArray).data.toList (⟨#[59]⟩ : ByteArray).data.toList = Lib.hasSuffix t [59] := by simp
  rw [e1, e2] at HCS
  clear e1 e2 hg
  generalize Lib.trimSuffix t [59] = B at *
  cases hh : Lib.hasSuffix t [59]
  · rw [hh] at HCS HPI
    have HR : Hid (parseI t = none) := by show _ = _; rw [unhide HPI]; rfl
    clear hh
    go_enter Tryz.func29, Tryz.ntmps29
    go_wp2_with fail
    refine (unhide HCS _).mono ?_; rintro e w1 ⟨rfl, rfl⟩
    go_wp2_with fail
    go_ret2
    exact ⟨⟨_, false, rfl, .inr ⟨rfl, unhide HR, rfl⟩⟩, Below.refl _ _⟩
  rw [hh] at HCS HPI
  have HPI2 : Hid (parseI t = stsI (cutL 59 B)) := by show _ = _; rw [unhide HPI]; rfl
  have HS1 := hide (split_any B 59 w (unhide HG) (by omega))
  have HS2 := hide (fun l ww h hl => split_any l 32 ww h hl)
  have HPL := hide (fun p (h : p ∈ cutL 59 B) => cutL_part h)
  have HC2 := hide (fun (l : List UInt8) => (⟨cutL_length_le 32 l, Nat.pos_of_ne_zero (fun e => cutL_ne 32 l (List.eq_nil_of_length_eq_zero e))⟩ : _ ∧ 1 ≤ (cutL 32 l).length))
  have HPP := hide (fun (l : List UInt8) p (h : p ∈ cutL 32 l) => cutL_part h)
  have hcl := cutL_length_le 59 B
  have HRS := hide (fun v ws ww h1 h2 h3 h4 => readSt_any v ws ww h1 h2 h3 h4)
  have HSI : Hid (∀ p, stI p = stW (cutL 32 p)) := fun _ => rfl
  generalize cutL 59 B = C at *
  obtain ⟨i0, hi, hz0, hz1, hz2⟩ := info_parts Tryz.infoSt
  clear hh HPI
  generalize hn : C.length = n at *
  have HN := hide hn
  clear hn
  go_enter Tryz.func29, Tryz.ntmps29
  go_wp2_with fail
  refine (unhide HCS _).mono ?_; rintro e w1 ⟨rfl, hw1⟩
  rw [hw1]
  clear hw1 w1
  go_wp2_with fail
  refine (unhide HS1).mono ?_; rintro e w2 ⟨rfl, hrow2, hb2⟩
  have HROW := hide hrow2
  have HB2 := hide hb2
  have hsw := hb2.size
  clear hrow2 hb2 HS1 HCS
  go_wp2_with fail
  go_loopw [6, 21] (fun r i wr => ∃ (k : Nat) (D : List St), k ≤ n ∧ i = .int .i64 k ∧ stsI (C.take k) = some D ∧ D.length = k ∧ wr.ownsRow w2.heap.size 35 3 r D.length (D.flatMap stE) ∧ Below w2.heap.size w2 wr) (fun _ i _ => n - (intOf i).toNat)
  case atStart => exact ⟨0, [], Nat.zero_le _, rfl, rfl, rfl, ⟨by simp, .inl ⟨rfl, rfl⟩⟩, Below.refl _ _⟩
  case round =>
    obtain ⟨k, D, hk, rfl, hD, hDk, hown, hb⟩ := hrel
    have HD := hide hD
    have HOWN := hide hown
    have HB := hide hb
    have HDK := hide hDk
    have hbw : Below w.heap.size w wr := (unhide HB2).trans (hb.mono (unhide HB2).size)
    have HBW := hide hbw
    have hsz := hbw.size
    have HGR := hide ((unhide HG).kept hbw)
    have hDl : D.length ≤ 100 := by omega
    have HBLK := hide (OwnK.of_own hown).blk
    have hsz2 := hb.size
    clear hD hown hb hbw
    generalize hdn : D.length = dn at *
    have HDN := hide hdn
    clear hdn
    obtain rfl : dn = k := unhide HDK
    by_cases hlt : dn < n
    · have c0 := (((unhide HROW).kept (unhide HB)).cellsAt sxE_len [] (i := dn) (by rw [unhide HN]; exact hlt) (f := 0) (u := .string ⟨(C.getD dn []).toArray⟩) rfl)
      simp only [Nat.mul_one, Nat.add_zero, Nat.zero_add] at c0
      have hkI : (dn : Int) < (n : Int) := by omega
      have hmem : C.getD dn [] ∈ C := by
        rw [List.getD_eq_getElem?_getD, List.getElem?_eq_getElem (by rw [unhide HN]; exact hlt)]; exact List.getElem_mem _
      have hpl := unhide HPL _ hmem
      have HSTEP := hide (fun x (e : stI (C.getD dn []) = some x) => stsI_step (by rw [unhide HN]; exact hlt) (unhide HD) e)
      have HNONE := hide (fun (e : stI (C.getD dn []) = none) => stsI_none (C := C) (k := dn) (by rw [unhide HN]; exact hlt) e)
      generalize C.getD dn [] = p at *
      clear hmem
      have HPL2 := hide hpl
      have hp1000 : p.length ≤ 1000 := by omega
      go_wp2_with fail
      refine (unhide HS2 p _ (unhide HGR) hp1000).mono ?_; rintro e w3 ⟨rfl, hrow3, hb3⟩
      have HROW3 := hide hrow3
      have HB3 := hide hb3
      have HGW3 := hide ((unhide HGR).kept hb3)
      have hs3 := hb3.size
      clear hrow3 hb3 c0
      have hcp := unhide HC2 p
      go_wp2_with fail
      refine (unhide HRS _ (cutL 32 p) _ (unhide HROW3) hcp.2 (fun x hx => by have := unhide HPP p x hx; omega) (unhide HGW3)).mono ?_; rintro e w4 ⟨x, b, rfl, hR, hb4⟩
      have HB4 := hide ((unhide HB3).trans (hb4.mono (unhide HB3).size))
      have hs4 := hb4.size
      clear hb4 hcp
      rcases hR with ⟨rfl, hR⟩ | ⟨rfl, hR⟩
      · have hSX := unhide HSTEP x (by rw [unhide HSI]; exact hR)
        have HSX := hide hSX
        have HOW4 := hide (ownsRow_below (unhide HOWN) (unhide HB4))
        clear hR hSX
        go_wp2_with (at_builtin; refine wpList_append_lies _ rfl _ _ 30 rfl w2.heap.size 35 i0 (.agg #[.int .i64 0, .int .i64 0, .int .i64 0]) 3 24 Tryz.underlying30 hi hz0 hz1 hz2 rfl (by decide) _ dn _ rfl (((unhide HOW4).alloc _).alloc _) ⟨w4.heap.size + 1, 0, none⟩ 1 1 [.int .i64 x.op, .int .i64 x.key, .int .i64 x.num] rfl rfl (World.news_of_block (by rw [show w4.heap.size + 1 = (w4.alloc (.cells #[.int .i64 x.op, .int .i64 x.key, .int .i64 x.num] 35)).heap.size by simp]; exact heap_alloc_new _ _)) (by simp [Value.oneCell']) (by decide) (by unfold maxLen; omega) (by omega) (by simp; omega) _ rfl ?_; intro g2 c2 w5 hown5 hg5 _ _)
        go_roundw
        case rel =>
          refine ⟨dn + 1, D ++ [x], hlt, by go_num, unhide HSX, by rw [List.length_append, unhide HDN]; rfl, ?_, ?_⟩
          · have e1 : (D ++ [x]).length = dn + 1 := by rw [List.length_append, unhide HDN]; rfl
            have e2 : (D ++ [x]).flatMap stE = D.flatMap stE ++ [.int .i64 x.op, .int .i64 x.key, .int .i64 x.num] := by rw [List.flatMap_append]; rfl
            rw [e1, e2]; exact hown5
          · have b4 : Below w2.heap.size w2 w4 := (unhide HB).trans ((unhide HB4).mono (unhide HB).size)
            have b5 := (b4.alloc b4.size (.cells #[.int .i64 x.op, .int .i64 x.key, .int .i64 x.num] 35))
            have b6 := b5.alloc b5.size (.cells #[.int .i64 x.op, .int .i64 x.key, .int .i64 x.num] 35)
            exact Below.grown b6 hg5 b6.size (fun q hq => (unhide HBLK).low q hq)
        case measure => simp [intOf]; omega
      · have HR := hide (unhide HNONE (by rw [unhide HSI]; exact hR))
        clear hR
        go_wp2_with fail
        go_ret2
        exact ⟨⟨_, false, rfl, .inr ⟨rfl, by rw [unhide HPI2]; exact unhide HR, rfl⟩⟩, ((unhide HBW).trans ((unhide HB4).mono (unhide HBW).size)).alloc ((unhide HBW).trans ((unhide HB4).mono (unhide HBW).size)).size _⟩
    · obtain rfl : dn = n := by omega
      have hC : C.take dn = C := List.take_of_length_le (by rw [unhide HN]; exact Nat.le_refl _)
      rw [hC] at HD
      clear hC
      go_wp2_with fail
      go_ret2
      exact ⟨⟨_, true, rfl, .inl ⟨rfl, D, by rw [unhide HPI2]; exact unhide HD, by rw [unhide HDN]; exact ownsRow_base (unhide HOWN) (unhide HB2).size⟩⟩, unhide HBW⟩

end Go.Proofs.YtedlhepbbefikaaGreatDoor
