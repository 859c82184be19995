/- Deals read: the specification's. -/
import Derived.Test.YtedlhepbbefikaaGreatDoorDcI7
import Derived.Test.YtedlhepbbefikaaGreatDoorAppK2
import Derived.Deep.DeepCutAuto
namespace Go.Proofs.YtedlhepbbefikaaGreatDoor
open Go.RowKit

theorem getD_opV (l : List UInt8) : opV l = if l = [110, 101, 101, 100] then 4 else if l = [97, 100, 100] then 3 else if l = [112, 117, 116] then 2 else if l = [103, 101, 116] then 1 else 0 := rfl

/-- What the inner loop has found in the first words. -/
def opK (l : List UInt8) (k : Nat) : Int := if 4 ≤ k ∧ l = [110, 101, 101, 100] then 4 else if 3 ≤ k ∧ l = [97, 100, 100] then 3 else if 2 ≤ k ∧ l = [112, 117, 116] then 2 else if 1 ≤ k ∧ l = [103, 101, 116] then 1 else 0
def wdK (k : Nat) : List UInt8 := if k = 1 then [103, 101, 116] else if k = 2 then [112, 117, 116] else if k = 3 then [97, 100, 100] else [110, 101, 101, 100]
theorem opK_four (l : List UInt8) : opK l 4 = opV l := by simp [opK, opV]
theorem opK_zero (l : List UInt8) : opK l 0 = 0 := by simp [opK]
theorem opK_step (l : List UInt8) (k : Nat) (hk : k < 4) : opK l (k + 1) = if l = wdK (k + 1) then ((k + 1 : Nat) : Int) else opK l k := by
  have : k = 0 ∨ k = 1 ∨ k = 2 ∨ k = 3 := by omega
  rcases this with rfl | rfl | rfl | rfl
  · by_cases h : l = [103, 101, 116] <;> simp [opK, wdK, h]
  · by_cases h : l = [112, 117, 116] <;> simp [opK, wdK, h]
  · by_cases h : l = [97, 100, 100] <;> simp [opK, wdK, h]
  · by_cases h : l = [110, 101, 101, 100] <;> simp [opK, wdK, h]

theorem parseS_take {t : List UInt8} {k : Nat} (hk : k + 1 < (cutL 59 t).length) : ((cutL 59 t).take (k + 1)).map stOfL = ((cutL 59 t).take k).map stOfL ++ [stOfL ((cutL 59 t).getD k [])] := by
  rw [take_succ_getD _ [] k (by omega), List.map_append]; rfl
theorem parseS_end {t : List UInt8} {k : Nat} (hk : k + 1 = (cutL 59 t).length) : ((cutL 59 t).take k).map stOfL = parseS t := by
  unfold parseS; rw [List.dropLast_eq_take]; congr 2; omega
theorem stOfL_mk {p : List UInt8} {ws : List (List UInt8)} (h : ws = cutL 32 p) : stOfL p = ⟨opV (ws.getD 0 []), if 1 < ws.length then numV (ws.getD 1 []) else 0, if 2 < ws.length then numV (ws.getD 2 []) else 0⟩ := by subst h; rfl

theorem size_setS (w : World) (g j : Nat) (v : Value) : (w.setCell ⟨g, j, none⟩ v).heap.size = w.heap.size := by simp [World.setCell]
theorem heap_new_setS (w : World) (g j : Nat) (v : Value) (o : Obj) : ((w.setCell ⟨g, j, none⟩ v).alloc o).heap[w.heap.size]? = some o := by
  have := heap_alloc_new (w.setCell ⟨g, j, none⟩ v) o
  rwa [size_setS] at this
theorem Box.drewB {w : World} {g : Nat} {T : TypeId} {cs : Array Value} (h : Box w g T cs) : Box w.drew g T cs := ⟨h.row⟩

set_option maxRecDepth 100000 in
set_option maxHeartbeats 8000000 in
theorem sRead_any (t : List UInt8) (w : World) :
    Calls Tryz.prog 20 #[.string ⟨t.toArray⟩] w fun e w' => DRes e w' w.heap.size t ∧ Below w.heap.size w w' := by
  by_cases hl : 80 < t.length
  · have HR := hide (readL_long hl)
    have hl' : (80 : Int) < (t.length : Int) := by omega
    go_enter Tryz.func20, Tryz.ntmps20
    go_wp2_with fail
    go_ret2
    exact ⟨.inr ⟨_, unhide HR, rfl, World.ownsRow_made (w := w) (base := w.heap.size) (e := 35) (size := 3) #[] 0 (by simp) (by simp [maxLen]) (by simp)⟩, (Below.refl _ _).alloc (Nat.le_refl _) _⟩
  have hl' : ¬ (80 : Int) < (t.length : Int) := by omega
  have HLE : Hid (t.length ≤ 80) := by show _ ≤ _; omega
  have HCUT := hide (fun (l : List UInt8) (c : UInt8) ww (h : l.length ≤ 1000) => by have := l1Cut_any ⟨l.toArray⟩ c ww (by simpa [ByteArray.size] using h); simpa using this)
  have HNUM := hide (fun (l : List UInt8) ww (h : l.length ≤ 1000) => by have := l1Num_any ⟨l.toArray⟩ ww (by simpa [ByteArray.size] using h); simpa using this)
  have HWR := hide (fun v ss ww h => sWriteA_any v ss ww h)
  have hcl := cutL_length_le 59 t
  have HPL := hide (fun p (h : p ∈ cutL 59 t) => cutL_part h)
  have hc1 : 1 ≤ (cutL 59 t).length := Nat.pos_of_ne_zero (fun e => cutL_ne 59 t (List.eq_nil_of_length_eq_zero e))
  have HTK := hide (fun k h => parseS_take (t := t) (k := k) h)
  have HTE := hide (fun k h => parseS_end (t := t) (k := k) h)
  obtain ⟨i0, hi, hz0, hz1, hz2⟩ := info_parts Tryz.infoSt
  have HC59 := hide (fun ww => unhide HCUT t 59 ww (by have := unhide HLE; omega))
  have e59 : ((59 : UInt8).toNat : Int) = 59 := rfl
  rw [e59] at HC59
  clear e59
  generalize hC : cutL 59 t = C at *
  have HC := hide hC
  clear hC
  generalize hn : C.length = n at *
  have HN := hide hn
  clear hn
  obtain ⟨wa, hwa⟩ : ∃ wa, wa = w.alloc (.cells #[] 35) := ⟨_, rfl⟩
  have HWA := hide hwa
  have hza : wa.heap.size = w.heap.size + 1 := by rw [hwa]; simp
  have HZA := hide hza
  have HOWN0 : Hid (wa.ownsRow w.heap.size 35 3 (.slice (some ⟨w.heap.size, 0, none⟩) 0 0) 0 []) := by
    show wa.ownsRow _ _ _ _ _ _
    rw [hwa]; exact World.ownsRow_made (w := w) (base := w.heap.size) (e := 35) (size := 3) #[] 0 (by simp) (by simp [maxLen]) (by simp)
  have HBA : Hid (Below w.heap.size w wa) := by show Below _ _ _; rw [hwa]; exact (Below.refl _ _).alloc (Nat.le_refl _) _
  clear hza
  go_enter Tryz.func20, Tryz.ntmps20
  go_wp2_with fail
  rw [← hwa]
  have HOB : Hid ((wa.alloc (.cells #[] 35)).ownsRow (w.heap.size + 1) 35 3 (.slice (some ⟨w.heap.size + 1, 0, none⟩) 0 0) 0 []) := by
    show World.ownsRow _ _ _ _ _ _ _
    rw [← unhide HZA]; exact World.ownsRow_made (w := wa) (base := wa.heap.size) (e := 35) (size := 3) #[] 0 (by simp) (by simp [maxLen]) (by simp)
  have hzb : (wa.alloc (.cells #[] 35)).heap.size = w.heap.size + 2 := by simp [unhide HZA]
  have HBB : Hid (Below (w.heap.size + 1) wa (wa.alloc (.cells #[] 35))) := (Below.refl _ _).alloc (by rw [unhide HZA]; exact Nat.le_refl _) _
  refine (unhide HC59 _).mono ?_; rintro e w2 ⟨r2, rfl, ho2, hb2⟩
  rw [hzb] at ho2 hb2
  have hrow2 : RowAt sxE w2 r2 C := RowAt.of_own (by rw [unhide HN]; exact ho2)
  have hlow2 := ownsRow_low ho2
  obtain ⟨pa, pc, hr2, -⟩ := ownsRow_slice ho2
  obtain ⟨pb, po, hpa⟩ : ∃ b off, pa = some ⟨b, off, none⟩ := by rw [hr2] at hrow2; exact hrow2.some_of (by rw [unhide HN]; omega)
  subst hpa
  subst hr2
  have hpb := hlow2 pb rfl
  have HROW := hide hrow2
  have HOB2 := hide (ownsRow_below (unhide HOB) (by rw [hzb]; exact hb2))
  have HB2 : Hid (Below (w.heap.size + 1) wa w2) := (unhide HBB).trans (hb2.mono (by omega))
  have hs2 := hb2.size
  clear hrow2 hlow2 ho2 hb2 hzb HC59
  go_wp2_with fail
  go_loopw [5, 7] (fun r i wr => ∃ k : Nat, k + 1 ≤ n ∧ i = .int .i64 k ∧ wr.ownsRow (w.heap.size + 1) 35 3 r k (((C.take k).map stOfL).flatMap stE) ∧ Below (w.heap.size + 1) wa wr ∧ RowAt sxE wr (.slice (some ⟨pb, po, none⟩) n pc) C ∧ (r.ownBlock ≠ some pb) ∧ w2.heap.size ≤ wr.heap.size) (fun _ i _ => n - (intOf i).toNat)
  case atStart => exact ⟨0, by omega, rfl, unhide HOB2, unhide HB2, unhide HROW, fun e => by simp [Value.ownBlock] at e; omega, Nat.le_refl _⟩
  case round =>
    obtain ⟨k, hk, rfl, hown, hb, hrow, hne, hsz⟩ := hrel
    have HOWN := hide hown
    have HB := hide hb
    have HROWR := hide hrow
    have HNE := hide hne
    have HBLK := hide (OwnK.of_own hown).blk
    clear hown hb hrow hne
    have hki : IntKind.i64.wrap ((k : Int) + 1) = (k : Int) + 1 := by rw [IntKind.wrap_i64]; omega
    by_cases hlt : k + 1 < n
    · have c0 := ((unhide HROWR).cellsAt sxE_len [] (i := k) (by rw [unhide HN]; omega) (f := 0) (u := .string ⟨(C.getD k []).toArray⟩) rfl)
      simp only [Nat.mul_one, Nat.add_zero] at c0
      have hkI : (k : Int) + 1 < (n : Int) := by omega
      have hmem : C.getD k [] ∈ C := by
        rw [List.getD_eq_getElem?_getD, List.getElem?_eq_getElem (by rw [unhide HN]; omega)]; exact List.getElem_mem _
      have hpl := unhide HPL _ hmem
      have HTKK := hide (unhide HTK k hlt)
      generalize C.getD k [] = p at *
      clear hmem
      have hle := unhide HLE
      have HP1000 : Hid (p.length ≤ 80) := by show _ ≤ _; omega
      have HCP := hide (fun ww => unhide HCUT p 32 ww (by have := unhide HP1000; omega))
      have e32 : ((32 : UInt8).toNat : Int) = 32 := rfl
      rw [e32] at HCP
      have hpos : 1 ≤ (cutL 32 p).length := Nat.pos_of_ne_zero (fun e => cutL_ne 32 p (List.eq_nil_of_length_eq_zero e))
      have hcp := cutL_length_le 32 p
      have HPP := hide (fun q (h : q ∈ cutL 32 p) => cutL_part h)
      obtain ⟨ws, hws⟩ : ∃ ws, ws = cutL 32 p := ⟨_, rfl⟩
      have HST := hide (stOfL_mk hws)
      rw [← hws] at HCP hpos hcp HPP
      clear e32 hws
      generalize hm : ws.length = m at *
      have HM := hide hm
      clear hm
      go_wp2_with fail
      refine (unhide HCP _).mono ?_; rintro e w3 ⟨r8, rfl, ho8, hb3⟩
      have hrow8 : RowAt sxE w3 r8 ws := RowAt.of_own (by rw [unhide HM]; exact ho8)
      obtain ⟨qa, qc, hr8, -⟩ := ownsRow_slice ho8
      obtain ⟨qb, qo, hqa⟩ : ∃ b off, qa = some ⟨b, off, none⟩ := by rw [hr8] at hrow8; exact hrow8.some_of (by rw [unhide HM]; omega)
      subst hqa
      subst hr8
      have HROW8 := hide hrow8
      have HB3 := hide hb3
      have hs3 := hb3.size
      have HWB : Hid (∀ i, i < m → ∀ ww, Below w3.heap.size w3 ww → ww.cell? ⟨qb, qo + i, none⟩ = some (.string ⟨(ws.getD i []).toArray⟩)) := fun i hi ww hww => by
        have := ((unhide HROW8).kept hww).cellsAt sxE_len [] (i := i) (by rw [unhide HM]; exact hi) (f := 0) (u := .string ⟨(ws.getD i []).toArray⟩) rfl
        simpa using this
      have HWL : Hid (∀ i, i < m → (ws.getD i []).length ≤ 1000) := fun i hi => by
        have h1 : ws.getD i [] ∈ ws := by rw [List.getD_eq_getElem?_getD, List.getElem?_eq_getElem (by rw [unhide HM]; exact hi)]; exact List.getElem_mem _
        have := unhide HPP _ h1; have := unhide HP1000; omega
      clear hrow8 ho8 hb3 c0 HCP
      go_wp2_with fail
      have HBX0 := hide (Box.made w3 35 #[.int .i64 0, .int .i64 0, .int .i64 0])
      have HOPK := hide (fun j hj => opK_step (ws.getD 0 []) j hj)
      have HOPZ := hide (opK_zero (ws.getD 0 []))
      have HOPF := hide (opK_four (ws.getD 0 []))
      have HW0 := hide (unhide HWB 0 (by omega))
      go_loopw [10] (fun i wz => ∃ j : Nat, j ≤ 4 ∧ i = .int .i64 ((j : Int) + 1) ∧ Box wz w3.heap.size 35 #[.int .i64 (opK (ws.getD 0 []) j), .int .i64 0, .int .i64 0] ∧ Below w3.heap.size w3 wz) (fun i _ => 6 - (intOf i).toNat)
      case atStart => exact ⟨0, by omega, rfl, by rw [unhide HOPZ]; exact unhide HBX0, (Below.refl _ _).alloc (Nat.le_refl _) _⟩
      case round =>
        obtain ⟨j, hj, rfl, hbx, hbz⟩ := hrel
        have HBX := hide hbx
        have HBZ := hide hbz
        have hszz := hbz.size
        by_cases hj4 : j < 4
        · have c0 := unhide HW0 _ hbz
          simp only [Nat.add_zero] at c0
          have hqb : qb < wr.heap.size := lt_of_cell c0
          have q0 := hbx.cell 0
          have f0 := hbx.free 0
          simp only [List.getElem?_toArray, List.getElem?_cons_zero] at q0
          have lbx := hbx.lt
          have hstep := unhide HOPK j hj4
          generalize ws.getD 0 [] = l0 at *
          have HSTEP := hide hstep
          clear hbx hbz hstep
          have hjc : j = 0 ∨ j = 1 ∨ j = 2 ∨ j = 3 := by omega
          rcases hjc with rfl | rfl | rfl | rfl
          · by_cases he : l0 = [103, 101, 116]
            · have he' : (l0 == [103, 101, 116]) = true := by simpa using he
              have HE := hide he
              clear he
              go_wp2_with fail
              go_region
              go_wp2_with fail
              go_roundw
              case rel =>
                have hb := (unhide HBZ).setCell (p := ⟨w3.heap.size, 0, none⟩) (Nat.le_refl _) (.int .i64 ((0 + 1 : Nat) : Int))
                refine ⟨0 + 1, by omega, by go_num, ?_, (hb.alloc hb.size (.cells #[.string ⟨#[]⟩, .string ⟨#[103, 101, 116]⟩, .string ⟨#[112, 117, 116]⟩, .string ⟨#[97, 100, 100]⟩, .string ⟨#[110, 101, 101, 100]⟩] 9)).drew⟩
                have h := (((unhide HBX).setJ 0 (.int .i64 ((0 + 1 : Nat) : Int))).alloc (.cells #[.string ⟨#[]⟩, .string ⟨#[103, 101, 116]⟩, .string ⟨#[112, 117, 116]⟩, .string ⟨#[97, 100, 100]⟩, .string ⟨#[110, 101, 101, 100]⟩] 9)).drewB
                rw [unhide HSTEP, if_pos (show l0 = wdK (0 + 1) from unhide HE)]
                simpa using h
              case measure => simp [intOf]
            · have he' : (l0 == [103, 101, 116]) = false := by simpa using he
              have HE := hide he
              clear he
              go_wp2_with fail
              go_region
              go_wp2_with fail
              go_roundw
              case rel =>
                refine ⟨0 + 1, by omega, by go_num, ?_, ((unhide HBZ).alloc (unhide HBZ).size (.cells #[.string ⟨#[]⟩, .string ⟨#[103, 101, 116]⟩, .string ⟨#[112, 117, 116]⟩, .string ⟨#[97, 100, 100]⟩, .string ⟨#[110, 101, 101, 100]⟩] 9)).drew⟩
                have h := ((unhide HBX).alloc (.cells #[.string ⟨#[]⟩, .string ⟨#[103, 101, 116]⟩, .string ⟨#[112, 117, 116]⟩, .string ⟨#[97, 100, 100]⟩, .string ⟨#[110, 101, 101, 100]⟩] 9)).drewB
                rw [unhide HSTEP, if_neg (show ¬ l0 = wdK (0 + 1) from unhide HE)]
                exact h
              case measure => simp [intOf]
          · by_cases he : l0 = [112, 117, 116]
            · have he' : (l0 == [112, 117, 116]) = true := by simpa using he
              have HE := hide he
              clear he
              go_wp2_with fail
              go_region
              go_wp2_with fail
              go_roundw
              case rel =>
                have hb := (unhide HBZ).setCell (p := ⟨w3.heap.size, 0, none⟩) (Nat.le_refl _) (.int .i64 ((1 + 1 : Nat) : Int))
                refine ⟨1 + 1, by omega, by go_num, ?_, (hb.alloc hb.size (.cells #[.string ⟨#[]⟩, .string ⟨#[103, 101, 116]⟩, .string ⟨#[112, 117, 116]⟩, .string ⟨#[97, 100, 100]⟩, .string ⟨#[110, 101, 101, 100]⟩] 9)).drew⟩
                have h := (((unhide HBX).setJ 0 (.int .i64 ((1 + 1 : Nat) : Int))).alloc (.cells #[.string ⟨#[]⟩, .string ⟨#[103, 101, 116]⟩, .string ⟨#[112, 117, 116]⟩, .string ⟨#[97, 100, 100]⟩, .string ⟨#[110, 101, 101, 100]⟩] 9)).drewB
                rw [unhide HSTEP, if_pos (show l0 = wdK (1 + 1) from unhide HE)]
                simpa using h
              case measure => simp [intOf]
            · have he' : (l0 == [112, 117, 116]) = false := by simpa using he
              have HE := hide he
              clear he
              go_wp2_with fail
              go_region
              go_wp2_with fail
              go_roundw
              case rel =>
                refine ⟨1 + 1, by omega, by go_num, ?_, ((unhide HBZ).alloc (unhide HBZ).size (.cells #[.string ⟨#[]⟩, .string ⟨#[103, 101, 116]⟩, .string ⟨#[112, 117, 116]⟩, .string ⟨#[97, 100, 100]⟩, .string ⟨#[110, 101, 101, 100]⟩] 9)).drew⟩
                have h := ((unhide HBX).alloc (.cells #[.string ⟨#[]⟩, .string ⟨#[103, 101, 116]⟩, .string ⟨#[112, 117, 116]⟩, .string ⟨#[97, 100, 100]⟩, .string ⟨#[110, 101, 101, 100]⟩] 9)).drewB
                rw [unhide HSTEP, if_neg (show ¬ l0 = wdK (1 + 1) from unhide HE)]
                exact h
              case measure => simp [intOf]
          · by_cases he : l0 = [97, 100, 100]
            · have he' : (l0 == [97, 100, 100]) = true := by simpa using he
              have HE := hide he
              clear he
              go_wp2_with fail
              go_region
              go_wp2_with fail
              go_roundw
              case rel =>
                have hb := (unhide HBZ).setCell (p := ⟨w3.heap.size, 0, none⟩) (Nat.le_refl _) (.int .i64 ((2 + 1 : Nat) : Int))
                refine ⟨2 + 1, by omega, by go_num, ?_, (hb.alloc hb.size (.cells #[.string ⟨#[]⟩, .string ⟨#[103, 101, 116]⟩, .string ⟨#[112, 117, 116]⟩, .string ⟨#[97, 100, 100]⟩, .string ⟨#[110, 101, 101, 100]⟩] 9)).drew⟩
                have h := (((unhide HBX).setJ 0 (.int .i64 ((2 + 1 : Nat) : Int))).alloc (.cells #[.string ⟨#[]⟩, .string ⟨#[103, 101, 116]⟩, .string ⟨#[112, 117, 116]⟩, .string ⟨#[97, 100, 100]⟩, .string ⟨#[110, 101, 101, 100]⟩] 9)).drewB
                rw [unhide HSTEP, if_pos (show l0 = wdK (2 + 1) from unhide HE)]
                simpa using h
              case measure => simp [intOf]
            · have he' : (l0 == [97, 100, 100]) = false := by simpa using he
              have HE := hide he
              clear he
              go_wp2_with fail
              go_region
              go_wp2_with fail
              go_roundw
              case rel =>
                refine ⟨2 + 1, by omega, by go_num, ?_, ((unhide HBZ).alloc (unhide HBZ).size (.cells #[.string ⟨#[]⟩, .string ⟨#[103, 101, 116]⟩, .string ⟨#[112, 117, 116]⟩, .string ⟨#[97, 100, 100]⟩, .string ⟨#[110, 101, 101, 100]⟩] 9)).drew⟩
                have h := ((unhide HBX).alloc (.cells #[.string ⟨#[]⟩, .string ⟨#[103, 101, 116]⟩, .string ⟨#[112, 117, 116]⟩, .string ⟨#[97, 100, 100]⟩, .string ⟨#[110, 101, 101, 100]⟩] 9)).drewB
                rw [unhide HSTEP, if_neg (show ¬ l0 = wdK (2 + 1) from unhide HE)]
                exact h
              case measure => simp [intOf]
          · by_cases he : l0 = [110, 101, 101, 100]
            · have he' : (l0 == [110, 101, 101, 100]) = true := by simpa using he
              have HE := hide he
              clear he
              go_wp2_with fail
              go_region
              go_wp2_with fail
              go_roundw
              case rel =>
                have hb := (unhide HBZ).setCell (p := ⟨w3.heap.size, 0, none⟩) (Nat.le_refl _) (.int .i64 ((3 + 1 : Nat) : Int))
                refine ⟨3 + 1, by omega, by go_num, ?_, (hb.alloc hb.size (.cells #[.string ⟨#[]⟩, .string ⟨#[103, 101, 116]⟩, .string ⟨#[112, 117, 116]⟩, .string ⟨#[97, 100, 100]⟩, .string ⟨#[110, 101, 101, 100]⟩] 9)).drew⟩
                have h := (((unhide HBX).setJ 0 (.int .i64 ((3 + 1 : Nat) : Int))).alloc (.cells #[.string ⟨#[]⟩, .string ⟨#[103, 101, 116]⟩, .string ⟨#[112, 117, 116]⟩, .string ⟨#[97, 100, 100]⟩, .string ⟨#[110, 101, 101, 100]⟩] 9)).drewB
                rw [unhide HSTEP, if_pos (show l0 = wdK (3 + 1) from unhide HE)]
                simpa using h
              case measure => simp [intOf]
            · have he' : (l0 == [110, 101, 101, 100]) = false := by simpa using he
              have HE := hide he
              clear he
              go_wp2_with fail
              go_region
              go_wp2_with fail
              go_roundw
              case rel =>
                refine ⟨3 + 1, by omega, by go_num, ?_, ((unhide HBZ).alloc (unhide HBZ).size (.cells #[.string ⟨#[]⟩, .string ⟨#[103, 101, 116]⟩, .string ⟨#[112, 117, 116]⟩, .string ⟨#[97, 100, 100]⟩, .string ⟨#[110, 101, 101, 100]⟩] 9)).drew⟩
                have h := ((unhide HBX).alloc (.cells #[.string ⟨#[]⟩, .string ⟨#[103, 101, 116]⟩, .string ⟨#[112, 117, 116]⟩, .string ⟨#[97, 100, 100]⟩, .string ⟨#[110, 101, 101, 100]⟩] 9)).drewB
                rw [unhide HSTEP, if_neg (show ¬ l0 = wdK (3 + 1) from unhide HE)]
                exact h
              case measure => simp [intOf]
        · obtain rfl : j = 4 := by omega
          have hbx4 := hbx
          rw [unhide HOPF] at hbx4
          have HBX4 := hide hbx4
          clear hbx hbx4 HBX
          obtain ⟨ra, rc, rfl, -⟩ := ownsRow_slice (unhide HOWN)
          have HB3W := hide (unhide HB3)
          rcases (by omega : m = 1 ∨ m = 2 ∨ 3 ≤ m) with rfl | rfl | hm3
          · have hst : stOfL p = ⟨opV (ws.getD 0 []), 0, 0⟩ := by rw [unhide HST]; simp [unhide HM]
            have HST2 := hide hst
            clear hst
            obtain ⟨q0, q1, q2⟩ : _ ∧ _ ∧ _ := ⟨(unhide HBX4).cell 0, (unhide HBX4).cell 1, (unhide HBX4).cell 2⟩
            obtain ⟨f0, f1, f2⟩ : _ ∧ _ ∧ _ := ⟨(unhide HBX4).free 0, (unhide HBX4).free 1, (unhide HBX4).free 2⟩
            simp only [List.getElem?_toArray, List.getElem?_cons_zero, List.getElem?_cons_succ] at q0 q1 q2
            have lbx := (unhide HBX4).lt
            generalize opV (ws.getD 0 []) = O at *
            have HBZ3 := hide (unhide HBZ)
            have hzw0 := (unhide HB).size
            have hzw1 := unhide HZA
            have HBZW : Hid (Below (w.heap.size + 1) wa wr) := ((unhide HB).trans ((unhide HB3).mono (by omega))).trans ((unhide HBZ3).mono (by omega))
            clear hzw0 hzw1
            have hzW : w.heap.size + 1 ≤ wr.heap.size := by have := (unhide HBZW).size; have := unhide HZA; omega
            have HOWZ := hide (ownsRow_below (ownsRow_below (unhide HOWN) (unhide HB3)) (unhide HBZ3))
            have HROWZ := hide (((unhide HROWR).kept (unhide HB3)).kept (unhide HBZ3))
            have hzz := (unhide HBZ3).size
            go_wp2_with (at_builtin; refine wpList_append_at rfl _ _ 30 rfl (w.heap.size + 1) 35 i0 (.agg #[.int .i64 0, .int .i64 0, .int .i64 0]) 3 24 Tryz.underlying30 hi hz0 hz1 hz2 rfl (by decide) _ k _ rfl ((unhide HOWZ).alloc _) (some ⟨wr.heap.size, 0, none⟩) 1 1 [.int .i64 O, .int .i64 0, .int .i64 0] rfl rfl (.inr ⟨by decide, _, rfl, World.news_of_block (heap_alloc_new _ _)⟩) (by simp [Value.oneCell']) (by unfold maxLen; omega) (by omega) (by simp; omega) _ rfl ?_; intro g2 c2 w6 hown6 hg6 hoo6)
            go_roundw
            case rel =>
              have e1 : ((C.take (k + 1)).map stOfL).flatMap stE = ((C.take k).map stOfL).flatMap stE ++ [.int .i64 O, .int .i64 0, .int .i64 0] := by rw [unhide HTKK, List.flatMap_append, unhide HST2]; rfl
              refine ⟨k + 1, by omega, by go_num, by rw [e1]; exact hown6, Below.grown ((unhide HBZW).alloc hzW _) hg6 (by simp; omega) (fun q hq => (unhide HBLK).low q hq), ((unhide HROWZ).kept ((Below.refl _ _).alloc (Nat.le_refl _) _)).far hg6 (.inr (fun e => unhide HNE e.symm)), ?_, ?_⟩
              · rcases hoo6 with h | h
                · rw [h]; exact unhide HNE
                · rw [h]; intro e; simp at e; omega
              · have := hg6.size; simp at this; omega
            case measure => simp [intOf]; omega
          · have hst : stOfL p = ⟨opV (ws.getD 0 []), numV (ws.getD 1 []), 0⟩ := by rw [unhide HST]; simp [unhide HM]
            have HST2 := hide hst
            clear hst
            obtain ⟨q0, q1, q2⟩ : _ ∧ _ ∧ _ := ⟨(unhide HBX4).cell 0, (unhide HBX4).cell 1, (unhide HBX4).cell 2⟩
            obtain ⟨f0, f1, f2⟩ : _ ∧ _ ∧ _ := ⟨(unhide HBX4).free 0, (unhide HBX4).free 1, (unhide HBX4).free 2⟩
            simp only [List.getElem?_toArray, List.getElem?_cons_zero, List.getElem?_cons_succ] at q0 q1 q2
            have lbx := (unhide HBX4).lt
            generalize opV (ws.getD 0 []) = O at *
            have c1 := unhide HWB 1 (by omega) _ (unhide HBZ)
            have hwl1 := unhide HWL 1 (by omega)
            generalize ws.getD 1 [] = l1 at *
            go_wp2_with fail
            refine (unhide HNUM l1 _ hwl1).mono ?_; rintro e w5 ⟨⟨bb1, rfl⟩, hbn1⟩
            have HBN1 := hide ((unhide HBZ).trans (hbn1.mono (unhide HBZ).size))
            have HBXN1 := hide ((unhide HBX4).kept hbn1)
            clear hbn1 c1 q0 q1 q2 f0 f1 f2 lbx
            obtain ⟨q0, q1, q2⟩ : _ ∧ _ ∧ _ := ⟨(unhide HBXN1).cell 0, (unhide HBXN1).cell 1, (unhide HBXN1).cell 2⟩
            obtain ⟨f0, f1, f2⟩ : _ ∧ _ ∧ _ := ⟨(unhide HBXN1).free 0, (unhide HBXN1).free 1, (unhide HBXN1).free 2⟩
            simp only [List.getElem?_toArray, List.getElem?_cons_zero, List.getElem?_cons_succ] at q0 q1 q2
            have lbx := (unhide HBXN1).lt
            generalize numV l1 = V1 at *
            have HBZ3 := hide ((unhide HBN1).setCell (p := ⟨w3.heap.size, 1, none⟩) (Nat.le_refl _) (.int .i64 V1))
            have hzw0 := (unhide HB).size
            have hzw1 := unhide HZA
            have HBZW : Hid (Below (w.heap.size + 1) wa (w5.setCell ⟨w3.heap.size, 1, none⟩ (.int .i64 V1))) := ((unhide HB).trans ((unhide HB3).mono (by omega))).trans ((unhide HBZ3).mono (by omega))
            clear hzw0 hzw1
            have hzW : w.heap.size + 1 ≤ (w5.setCell ⟨w3.heap.size, 1, none⟩ (.int .i64 V1)).heap.size := by have := (unhide HBZW).size; have := unhide HZA; omega
            have HOWZ := hide (ownsRow_below (ownsRow_below (unhide HOWN) (unhide HB3)) (unhide HBZ3))
            have HROWZ := hide (((unhide HROWR).kept (unhide HB3)).kept (unhide HBZ3))
            have hzz := (unhide HBZ3).size
            go_wp2_with (at_builtin; refine wpList_append_at rfl _ _ 30 rfl (w.heap.size + 1) 35 i0 (.agg #[.int .i64 0, .int .i64 0, .int .i64 0]) 3 24 Tryz.underlying30 hi hz0 hz1 hz2 rfl (by decide) _ k _ rfl ((unhide HOWZ).alloc _) (some ⟨w5.heap.size, 0, none⟩) 1 1 [.int .i64 O, .int .i64 V1, .int .i64 0] rfl rfl (.inr ⟨by decide, _, rfl, World.news_of_block (heap_new_setS _ _ _ _ _)⟩) (by simp [Value.oneCell']) (by unfold maxLen; omega) (by omega) (by simp; omega) _ rfl ?_; intro g2 c2 w6 hown6 hg6 hoo6)
            go_roundw
            case rel =>
              have e1 : ((C.take (k + 1)).map stOfL).flatMap stE = ((C.take k).map stOfL).flatMap stE ++ [.int .i64 O, .int .i64 V1, .int .i64 0] := by rw [unhide HTKK, List.flatMap_append, unhide HST2]; rfl
              refine ⟨k + 1, by omega, by go_num, by rw [e1]; exact hown6, Below.grown ((unhide HBZW).alloc hzW _) hg6 (by simp; omega) (fun q hq => (unhide HBLK).low q hq), ((unhide HROWZ).kept ((Below.refl _ _).alloc (Nat.le_refl _) _)).far hg6 (.inr (fun e => unhide HNE e.symm)), ?_, ?_⟩
              · rcases hoo6 with h | h
                · rw [h]; exact unhide HNE
                · rw [h]; intro e; simp at e; omega
              · have := hg6.size; simp at this; omega
            case measure => simp [intOf]; omega
          · have hst : stOfL p = ⟨opV (ws.getD 0 []), numV (ws.getD 1 []), numV (ws.getD 2 [])⟩ := by
              rw [unhide HST, if_pos (by omega), if_pos (by omega)]
            have HST2 := hide hst
            clear hst
            have hm3' : (1 : Int) < (m : Int) := by omega
            have hm3'' : (2 : Int) < (m : Int) := by omega
            obtain ⟨q0, q1, q2⟩ : _ ∧ _ ∧ _ := ⟨(unhide HBX4).cell 0, (unhide HBX4).cell 1, (unhide HBX4).cell 2⟩
            obtain ⟨f0, f1, f2⟩ : _ ∧ _ ∧ _ := ⟨(unhide HBX4).free 0, (unhide HBX4).free 1, (unhide HBX4).free 2⟩
            simp only [List.getElem?_toArray, List.getElem?_cons_zero, List.getElem?_cons_succ] at q0 q1 q2
            have lbx := (unhide HBX4).lt
            generalize opV (ws.getD 0 []) = O at *
            have c1 := unhide HWB 1 (by omega) _ (unhide HBZ)
            have hwl1 := unhide HWL 1 (by omega)
            generalize ws.getD 1 [] = l1 at *
            go_wp2_with fail
            refine (unhide HNUM l1 _ hwl1).mono ?_; rintro e w5 ⟨⟨bb1, rfl⟩, hbn1⟩
            have HBN1 := hide ((unhide HBZ).trans (hbn1.mono (unhide HBZ).size))
            have HBXN1 := hide ((unhide HBX4).kept hbn1)
            clear hbn1 c1 q0 q1 q2 f0 f1 f2 lbx
            obtain ⟨q0, q1, q2⟩ : _ ∧ _ ∧ _ := ⟨(unhide HBXN1).cell 0, (unhide HBXN1).cell 1, (unhide HBXN1).cell 2⟩
            obtain ⟨f0, f1, f2⟩ : _ ∧ _ ∧ _ := ⟨(unhide HBXN1).free 0, (unhide HBXN1).free 1, (unhide HBXN1).free 2⟩
            simp only [List.getElem?_toArray, List.getElem?_cons_zero, List.getElem?_cons_succ] at q0 q1 q2
            have lbx := (unhide HBXN1).lt
            generalize numV l1 = V1 at *
            have HBY := hide ((unhide HBN1).setCell (p := ⟨w3.heap.size, 1, none⟩) (Nat.le_refl _) (.int .i64 V1))
            have hby := (unhide HBXN1).setJ 1 (.int .i64 V1)
            have HBXY : Hid (Box (w5.setCell ⟨w3.heap.size, 1, none⟩ (.int .i64 V1)) w3.heap.size 35 #[.int .i64 O, .int .i64 V1, .int .i64 0]) := hby
            clear hby
            have c2 := unhide HWB 2 (by omega) _ (unhide HBY)
            have hwl2 := unhide HWL 2 (by omega)
            generalize ws.getD 2 [] = l2 at *
            go_wp2_with fail
            refine (unhide HNUM l2 _ hwl2).mono ?_; rintro e w7 ⟨⟨bb2, rfl⟩, hbn2⟩
            have HBN2 := hide ((unhide HBY).trans (hbn2.mono (unhide HBY).size))
            have HBXN2 := hide ((unhide HBXY).kept hbn2)
            clear hbn2 c2 q0 q1 q2 f0 f1 f2 lbx
            obtain ⟨q0, q1, q2⟩ : _ ∧ _ ∧ _ := ⟨(unhide HBXN2).cell 0, (unhide HBXN2).cell 1, (unhide HBXN2).cell 2⟩
            obtain ⟨f0, f1, f2⟩ : _ ∧ _ ∧ _ := ⟨(unhide HBXN2).free 0, (unhide HBXN2).free 1, (unhide HBXN2).free 2⟩
            simp only [List.getElem?_toArray, List.getElem?_cons_zero, List.getElem?_cons_succ] at q0 q1 q2
            have lbx := (unhide HBXN2).lt
            generalize numV l2 = V2 at *
            have HBZ3 := hide ((unhide HBN2).setCell (p := ⟨w3.heap.size, 2, none⟩) (Nat.le_refl _) (.int .i64 V2))
            have hzw0 := (unhide HB).size
            have hzw1 := unhide HZA
            have HBZW : Hid (Below (w.heap.size + 1) wa (w7.setCell ⟨w3.heap.size, 2, none⟩ (.int .i64 V2))) := ((unhide HB).trans ((unhide HB3).mono (by omega))).trans ((unhide HBZ3).mono (by omega))
            clear hzw0 hzw1
            have hzW : w.heap.size + 1 ≤ (w7.setCell ⟨w3.heap.size, 2, none⟩ (.int .i64 V2)).heap.size := by have := (unhide HBZW).size; have := unhide HZA; omega
            have HOWZ := hide (ownsRow_below (ownsRow_below (unhide HOWN) (unhide HB3)) (unhide HBZ3))
            have HROWZ := hide (((unhide HROWR).kept (unhide HB3)).kept (unhide HBZ3))
            have hzz := (unhide HBZ3).size
            go_wp2_with (at_builtin; refine wpList_append_at rfl _ _ 30 rfl (w.heap.size + 1) 35 i0 (.agg #[.int .i64 0, .int .i64 0, .int .i64 0]) 3 24 Tryz.underlying30 hi hz0 hz1 hz2 rfl (by decide) _ k _ rfl ((unhide HOWZ).alloc _) (some ⟨w7.heap.size, 0, none⟩) 1 1 [.int .i64 O, .int .i64 V1, .int .i64 V2] rfl rfl (.inr ⟨by decide, _, rfl, World.news_of_block (heap_new_setS _ _ _ _ _)⟩) (by simp [Value.oneCell']) (by unfold maxLen; omega) (by omega) (by simp; omega) _ rfl ?_; intro g2 c2 w6 hown6 hg6 hoo6)
            go_roundw
            case rel =>
              have e1 : ((C.take (k + 1)).map stOfL).flatMap stE = ((C.take k).map stOfL).flatMap stE ++ [.int .i64 O, .int .i64 V1, .int .i64 V2] := by rw [unhide HTKK, List.flatMap_append, unhide HST2]; rfl
              refine ⟨k + 1, by omega, by go_num, by rw [e1]; exact hown6, Below.grown ((unhide HBZW).alloc hzW _) hg6 (by simp; omega) (fun q hq => (unhide HBLK).low q hq), ((unhide HROWZ).kept ((Below.refl _ _).alloc (Nat.le_refl _) _)).far hg6 (.inr (fun e => unhide HNE e.symm)), ?_, ?_⟩
              · rcases hoo6 with h | h
                · rw [h]; exact unhide HNE
                · rw [h]; intro e; simp at e; omega
              · have := hg6.size; simp at this; omega
            case measure => simp [intOf]; omega
    · have hkn : k + 1 = n := by omega
      have HPE := hide (unhide HTE k hkn)
      have hkn' : (k : Int) + 1 = (n : Int) := by omega
      have hnlt : ¬ (k : Int) + 1 < (n : Int) := by omega
      have HEL : Hid ((parseS t).length = k) := by show _ = _; rw [← unhide HPE, List.length_map, List.length_take, unhide HN]; omega
      have HOWE : Hid (wr.ownsRow (w.heap.size + 1) 35 3 u5 (parseS t).length ((parseS t).flatMap stE)) := by
        show World.ownsRow _ _ _ _ _ _ _
        rw [unhide HEL, ← unhide HPE]; exact unhide HOWN
      have HSTS := hide (sts_of_row (RowAt.of_own (unhide HOWE)))
      obtain ⟨ra, rc, rfl, -⟩ := ownsRow_slice (unhide HOWN)
      have HBF := hide ((unhide HBA).trans ((unhide HB).mono (Nat.le_succ _)))
      have HOWNN : Hid (wr.ownsRow w.heap.size 35 3 (.slice (some ⟨w.heap.size, 0, none⟩) 0 0) 0 []) := ownsRow_below (unhide HOWN0) (by have := unhide HB; rwa [← unhide HZA] at this)
      have HYES := hide (fun (e : wrL (parseS t) = t) h => readL_S (unhide HLE) e h)
      have HNO := hide (fun (e : wrL (parseS t) ≠ t) => readL_Sno e)
      generalize hE : parseS t = E at *
      clear hE
      by_cases ht0 : t = []
      · have HR : Hid (readL t = none) := by rw [ht0]; exact readL_nil
        have h1 : (t == []) = true := by simpa using ht0
        have h2 : t.isEmpty = true := by simpa using ht0
        clear ht0
        go_wp2_with fail
        go_ret2
        exact ⟨.inr ⟨_, unhide HR, rfl, unhide HOWNN⟩, unhide HBF⟩
      · have h1 : (t == []) = false := by simpa using ht0
        have h2 : t.isEmpty = false := by simpa using ht0
        have HT0 := hide ht0
        clear ht0
        go_wp2_with fail
        refine (unhide HWR _ E _ (unhide HSTS)).mono ?_; rintro e w5 ⟨rfl, hb5⟩
        have HB5 := hide ((unhide HBF).trans (hb5.mono (unhide HBF).size))
        have HOWE5 := hide (ownsRow_below (unhide HOWE) hb5)
        have HOWN5 := hide (ownsRow_below (unhide HOWNN) hb5)
        clear hb5
        by_cases he : wrL E = t
        · have HR := hide (unhide HYES he (unhide HT0))
          generalize wrL E = L at *
          have h1 : (L == t) = true := by simpa using he
          clear he
          go_wp2_with fail
          go_ret2
          exact ⟨.inl ⟨E, .slice ra k rc, unhide HR, rfl, ownsRow_base (unhide HOWE5) (Nat.le_succ _)⟩, unhide HB5⟩
        · have HR := hide (unhide HNO he)
          generalize wrL E = L at *
          have h1 : (L == t) = false := by simpa using he
          clear he
          go_wp2_with fail
          go_ret2
          exact ⟨.inr ⟨_, unhide HR, rfl, unhide HOWN5⟩, unhide HB5⟩

end Go.Proofs.YtedlhepbbefikaaGreatDoor
