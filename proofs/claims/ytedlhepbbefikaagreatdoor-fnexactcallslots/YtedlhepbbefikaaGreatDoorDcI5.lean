/- A statement read: the program's way. -/
import Derived.Test.YtedlhepbbefikaaGreatDoorDcI4
namespace Go.Proofs.YtedlhepbbefikaaGreatDoor
open Go.RowKit

/-- What readStatement answers. -/
def StR (ws : List (List UInt8)) (x : St) (b : Bool) : Prop := (b = true ∧ stW ws = some x) ∨ (b = false ∧ stW ws = none)

theorem Box.setJ {w : World} {g : Nat} {T : TypeId} {cs : Array Value} (h : Box w g T cs) (j : Nat) (u : Value) : Box (w.setCell ⟨g, j, none⟩ u) g T (cs.setIfInBounds j u) := ⟨heap_setCell_same _ _ _ _ _ _ h.row⟩
theorem Box.set3 {w : World} {g : Nat} {T : TypeId} {a b c : Value} (h : Box w g T #[a, b, c]) (x y z : Value) : Box (((w.setCell ⟨g, 0, none⟩ x).setCell ⟨g, 1, none⟩ y).setCell ⟨g, 2, none⟩ z) g T #[x, y, z] := by
  have := ((h.setJ 0 x).setJ 1 y).setJ 2 z
  simpa using this
theorem below_set3 {w w' : World} {B g : Nat} (h : Below B w w') (hg : B ≤ g) (x y z : Value) : Below B w (((w'.setCell ⟨g, 0, none⟩ x).setCell ⟨g, 1, none⟩ y).setCell ⟨g, 2, none⟩ z) :=
  ((h.setCell hg _).setCell hg _).setCell hg _

theorem stW_none1 {ws : List (List UInt8)} {op : Int} (ho : opV (ws.getD 0 []) = op) (h : (op = 0 ∨ op = 1 ∨ ws.length ≠ 3) ∧ ¬ (op = 1 ∧ ws.length = 2)) : stW ws = none := by
  subst ho; unfold stW; rw [if_neg h.2, if_pos h.1]
theorem stW_getOk {ws : List (List UInt8)} {op v : Int} (ho : opV (ws.getD 0 []) = op) (h : op = 1 ∧ ws.length = 2) (e : Lib.atoiAll (ws.getD 1 []) = .ok v) : stW ws = some ⟨1, v, 0⟩ := by
  subst ho; unfold stW; rw [if_pos h, e]
theorem stW_getNo {ws : List (List UInt8)} {op : Int} (ho : opV (ws.getD 0 []) = op) (h : op = 1 ∧ ws.length = 2) (e : ∀ u, Lib.atoiAll (ws.getD 1 []) ≠ .ok u) : stW ws = none := by
  subst ho; unfold stW; rw [if_pos h]
  cases hr : Lib.atoiAll (ws.getD 1 []) with
  | ok v => exact absurd hr (e v)
  | _ => rfl
theorem stW_numOk {ws : List (List UInt8)} {op v n : Int} (ho : opV (ws.getD 0 []) = op) (h : ¬ (op = 0 ∨ op = 1 ∨ ws.length ≠ 3)) (e : Lib.atoiAll (ws.getD 1 []) = .ok v) (e' : Lib.atoiAll (ws.getD 2 []) = .ok n) : stW ws = some ⟨op, v, n⟩ := by
  subst ho; unfold stW; rw [if_neg (fun x => h (.inr (.inl x.1))), if_neg h, e, e']
theorem stW_numNo1 {ws : List (List UInt8)} {op : Int} (ho : opV (ws.getD 0 []) = op) (h : ¬ (op = 0 ∨ op = 1 ∨ ws.length ≠ 3)) (e : ∀ u, Lib.atoiAll (ws.getD 1 []) ≠ .ok u) : stW ws = none := by
  subst ho; unfold stW; rw [if_neg (fun x => h (.inr (.inl x.1))), if_neg h]
  cases hr : Lib.atoiAll (ws.getD 1 []) with
  | ok v => exact absurd hr (e v)
  | _ => rfl
theorem stW_numNo2 {ws : List (List UInt8)} {op : Int} (ho : opV (ws.getD 0 []) = op) (h : ¬ (op = 0 ∨ op = 1 ∨ ws.length ≠ 3)) (e : ∀ u, Lib.atoiAll (ws.getD 2 []) ≠ .ok u) : stW ws = none := by
  subst ho; unfold stW; rw [if_neg (fun x => h (.inr (.inl x.1))), if_neg h]
  cases hr : Lib.atoiAll (ws.getD 1 []) <;> cases hq : Lib.atoiAll (ws.getD 2 [])
  case ok.ok => rename_i v; exact absurd hq (e v)
  all_goals rfl
theorem atoi_zero : Lib.atoiAll [48] = .ok 0 := by
  have e : Lib.itoa 0 = [48] := by rw [itoa_pos (Int.le_refl 0), show (0 : Int).toNat = 0 from rfl, Lib.decDigits, dif_pos (by omega)]; rfl
  rw [← e]; exact atoi_itoa (by omega) (by omega)
theorem opV_cases (l : List UInt8) : opV l = 0 ∨ opV l = 1 ∨ opV l = 2 ∨ opV l = 3 ∨ opV l = 4 := by
  unfold opV; (repeat' split) <;> simp

set_option maxRecDepth 100000 in
set_option maxHeartbeats 4000000 in
theorem readSt_any (v : Value) (ws : List (List UInt8)) (w : World) (hv : RowAt sxE w v ws) (hne : 1 ≤ ws.length) (hl : ∀ x ∈ ws, x.length ≤ 1000) (hg : GW w) :
    Calls Tryz.prog 44 #[v] w fun e w' => ∃ (x : St) (b : Bool), e = .returned (.tuple #[.agg #[.int .i64 x.op, .int .i64 x.key, .int .i64 x.num], .bool b]) ∧ StR ws x b ∧ Below w.heap.size w w' := by
  have HDO := hide (fun l ww => doOf_any l ww)
  have HAT := hide (fun l ww h h2 => atoi_any l ww h h2)
  have HV := hide hv
  have HG := hide hg
  obtain ⟨a, c, rfl, hlm⟩ := hv.shape
  obtain ⟨b, off, rfl⟩ := hv.some_of (by omega)
  have hlen : ∀ i, i < ws.length → (ws.getD i []).length ≤ 1000 := fun i hi => hl _ (by rw [List.getD_eq_getElem?_getD, List.getElem?_eq_getElem hi]; exact List.getElem_mem hi)
  have HLEN := hide hlen
  have bA : Below w.heap.size w (w.alloc (.cells #[.int .i64 0, .int .i64 0, .int .i64 0] 35)) := (Below.refl _ _).alloc (Nat.le_refl _) _
  have HA := hide bA
  have HX := hide (Box.made w 35 #[.int .i64 0, .int .i64 0, .int .i64 0])
  have HCE := hide (fun (ww : World) (h : Below w.heap.size w ww) i (hi : i < ws.length) => ((hv.kept h).cellsAt sxE_len [] (i := i) hi (f := 0) (u := .string ⟨(ws.getD i []).toArray⟩) rfl))
  obtain ⟨op, hop⟩ : ∃ op, opV (ws.getD 0 []) = op := ⟨_, rfl⟩
  have hoc := opV_cases (ws.getD 0 [])
  rw [hop] at hoc
  have HOP := hide hop
  have c0 := unhide HCE _ bA 0 (by omega)
  simp only [Nat.zero_mul, Nat.add_zero] at c0
  generalize hN : ws.length = N at *
  have HN := hide hN
  unfold maxLen at hlm
  clear hv hg hl hlen bA hop hN
  have hdo : ∀ ww, Calls Tryz.prog 66 #[.string ⟨(ws.getD 0 []).toArray⟩] ww fun e w' => e = .returned (.int .i64 op) ∧ w' = ww := fun ww => by rw [← unhide HOP]; exact unhide HDO _ ww
  have HD0 := hide hdo
  clear hdo HDO
  by_cases hA : op = 1 ∧ N = 2
  · obtain ⟨rfl, rfl⟩ := hA
    have HOK : Hid (∀ v, Lib.atoiAll (ws.getD 1 []) = .ok v → stW ws = some ⟨1, v, 0⟩) := fun v e => stW_getOk (unhide HOP) ⟨rfl, unhide HN⟩ e
    have HNO : Hid ((∀ u, Lib.atoiAll (ws.getD 1 []) ≠ .ok u) → stW ws = none) := fun e => stW_getNo (unhide HOP) ⟨rfl, unhide HN⟩ e
    have c1 := unhide HCE _ (unhide HA) 1 (by omega)
    simp only [Nat.mul_one, Nat.add_zero] at c1
    have hw1 := unhide HLEN 1 (by omega)
    generalize ws.getD 0 [] = l0 at *
    generalize ws.getD 1 [] = l1 at *
    go_enter Tryz.func44, Tryz.ntmps44
    go_wp2_with fail
    refine (unhide HD0 _).mono ?_; rintro e w1 ⟨rfl, rfl⟩
    go_wp2_with fail
    go_region
    all_goals go_wp2_with fail
    all_goals
      have hwd : Below w.heap.size w ((w.alloc (.cells #[.int .i64 0, .int .i64 0, .int .i64 0] 35)).drew.alloc (.cells #[.string ⟨l0.toArray⟩, .string ⟨l1.toArray⟩, .string ⟨#[48]⟩] 9)) := (unhide HA).drew.alloc (by simp) _
      have HWD := hide hwd
      have HXD : Hid (Box ((w.alloc (.cells #[.int .i64 0, .int .i64 0, .int .i64 0] 35)).drew.alloc (.cells #[.string ⟨l0.toArray⟩, .string ⟨l1.toArray⟩, .string ⟨#[48]⟩] 9)) w.heap.size 35 #[.int .i64 0, .int .i64 0, .int .i64 0]) := Box.alloc (w := (w.alloc (.cells #[.int .i64 0, .int .i64 0, .int .i64 0] 35)).drew) ⟨(unhide HX).row⟩ _
      have HSD : Hid (Box ((w.alloc (.cells #[.int .i64 0, .int .i64 0, .int .i64 0] 35)).drew.alloc (.cells #[.string ⟨l0.toArray⟩, .string ⟨l1.toArray⟩, .string ⟨#[48]⟩] 9)) (w.heap.size + 1) 9 #[.string ⟨l0.toArray⟩, .string ⟨l1.toArray⟩, .string ⟨#[48]⟩]) := ⟨by rw [show w.heap.size + 1 = ((w.alloc (.cells #[.int .i64 0, .int .i64 0, .int .i64 0] 35)).drew).heap.size by simp]; exact heap_alloc_new _ _⟩
      clear hwd c0 c1
      refine (unhide HAT l1 _ ((unhide HG).kept (unhide HWD)) hw1).mono ?_; rintro e w2 ⟨v1, e1, rfl, hr1, hb2⟩
      have HB2 := hide hb2
      have HWD2 := hide ((unhide HWD).trans (hb2.mono (unhide HWD).size))
      have HXD2 := hide ((unhide HXD).kept hb2)
      have s2 := ((unhide HSD).kept hb2).cell 2
      simp only [List.getElem?_toArray, List.getElem?_cons_zero, List.getElem?_cons_succ] at s2
      have hz2 := hb2.size
      clear hb2
      go_wp2_with fail
      refine (unhide HAT [48] _ ((unhide HG).kept (unhide HWD2)) (by simp)).mono ?_; rintro e w3 ⟨v2, e2, rfl, hr2, hb3⟩
      have hv2 : v2 = 0 ∧ e2 = .nilIface := by
        have h0 := atoi_zero
        rcases hr2 with ⟨h, rfl⟩ | ⟨h, -⟩
        · rw [h0] at h; injection h with h; exact ⟨h.symm, rfl⟩
        · exact absurd h0 (h 0)
      obtain ⟨rfl, rfl⟩ := hv2
      have HWD3 := hide ((unhide HWD2).trans (hb3.mono (unhide HWD2).size))
      have HXD3 := hide ((unhide HXD2).kept hb3)
      have q0 := (unhide HXD3).cell 0
      have q1 := (unhide HXD3).cell 1
      have q2 := (unhide HXD3).cell 2
      simp only [List.getElem?_toArray, List.getElem?_cons_zero, List.getElem?_cons_succ] at q0 q1 q2
      have lx := (unhide HXD3).lt
      have f0 := (unhide HXD3).free 0
      have f1 := (unhide HXD3).free 1
      have f2 := (unhide HXD3).free 2
      clear hb3 hr2 s2
      rcases hr1 with ⟨hr, rfl⟩ | ⟨hr, te, pe, rfl⟩
      · have HR := hide (unhide HOK _ hr)
        clear hr
        go_wp2_with fail
        refine bodyPost_ret (results_row_tmp rfl _ _ w.heap.size _ _ _ _ rfl ((unhide HXD3).set3 (.int .i64 1) (.int .i64 v1) (.int .i64 0)).row Tryz.underlying35 rfl (by kernel_rfl)) rfl ?_
        exact ⟨⟨1, v1, 0⟩, true, rfl, .inl ⟨rfl, unhide HR⟩, below_set3 (unhide HWD3) (Nat.le_refl _) _ _ _⟩
      · have HR := hide (unhide HNO hr)
        clear hr
        go_wp2_with fail
        refine bodyPost_ret (results_row_tmp rfl _ _ w.heap.size _ _ _ _ rfl ((unhide HXD3).set3 (.int .i64 0) (.int .i64 0) (.int .i64 0)).row Tryz.underlying35 rfl (by kernel_rfl)) rfl ?_
        exact ⟨⟨0, 0, 0⟩, false, rfl, .inr ⟨rfl, unhide HR⟩, below_set3 (unhide HWD3) (Nat.le_refl _) _ _ _⟩
  by_cases hB : op = 0 ∨ op = 1 ∨ N ≠ 3
  · have HR := hide (stW_none1 (unhide HOP) ⟨by rw [unhide HN]; exact hB, by rw [unhide HN]; exact hA⟩)
    have q0 := (unhide HX).cell 0
    have q1 := (unhide HX).cell 1
    have q2 := (unhide HX).cell 2
    have f0 := (unhide HX).free 0
    have f1 := (unhide HX).free 1
    have f2 := (unhide HX).free 2
    have lx := (unhide HX).lt
    simp only [List.getElem?_toArray, List.getElem?_cons_zero, List.getElem?_cons_succ] at q0 q1 q2
    generalize ws.getD 0 [] = l0 at *
    have hcase : op = 0 ∨ (op = 1 ∧ (N == 2) = false) ∨ ((op == 0) = false ∧ (op == 1) = false ∧ ((N : Int) != 3) = true) := by
      by_cases h0 : op = 0
      · exact .inl h0
      by_cases h1 : op = 1
      · exact .inr (.inl ⟨h1, by simp; omega⟩)
      · exact .inr (.inr ⟨by simpa using h0, by simpa using h1, by simp; omega⟩)
    clear hA hB hoc
    rcases hcase with rfl | ⟨rfl, hn2⟩ | ⟨h0, h1, h3⟩
    · go_enter Tryz.func44, Tryz.ntmps44
      go_wp2_with fail
      refine (unhide HD0 _).mono ?_; rintro e w1 ⟨rfl, rfl⟩
      go_wp2_with fail
      refine bodyPost_ret (results_row_tmp rfl _ _ w.heap.size _ _ _ _ rfl (unhide HX).row Tryz.underlying35 rfl (by kernel_rfl)) rfl ?_
      exact ⟨⟨0, 0, 0⟩, false, rfl, .inr ⟨rfl, unhide HR⟩, unhide HA⟩
    · have hn2' : ((N : Int) == 2) = false := by simp at hn2 ⊢; omega
      clear hn2
      go_enter Tryz.func44, Tryz.ntmps44
      go_wp2_with fail
      refine (unhide HD0 _).mono ?_; rintro e w1 ⟨rfl, rfl⟩
      go_wp2_with fail
      refine bodyPost_ret (results_row_tmp rfl _ _ w.heap.size _ _ _ _ rfl (unhide HX).row Tryz.underlying35 rfl (by kernel_rfl)) rfl ?_
      exact ⟨⟨0, 0, 0⟩, false, rfl, .inr ⟨rfl, unhide HR⟩, unhide HA⟩
    · go_enter Tryz.func44, Tryz.ntmps44
      go_wp2_with fail
      refine (unhide HD0 _).mono ?_; rintro e w1 ⟨rfl, rfl⟩
      go_wp2_with fail
      refine bodyPost_ret (results_row_tmp rfl _ _ w.heap.size _ _ _ _ rfl (unhide HX).row Tryz.underlying35 rfl (by kernel_rfl)) rfl ?_
      exact ⟨⟨0, 0, 0⟩, false, rfl, .inr ⟨rfl, unhide HR⟩, unhide HA⟩
  · have hN3 : N = 3 := by
      rcases Nat.decEq N 3 with h | h
      · exact absurd (.inr (.inr h)) hB
      · exact h
    subst hN3
    have h0 : (op == 0) = false := by simp; intro e; exact hB (.inl e)
    have h1 : (op == 1) = false := by simp; intro e; exact hB (.inr (.inl e))
    have HOK : Hid (∀ v n, Lib.atoiAll (ws.getD 1 []) = .ok v → Lib.atoiAll (ws.getD 2 []) = .ok n → stW ws = some ⟨op, v, n⟩) := fun v n e e' => stW_numOk (unhide HOP) (by rw [unhide HN]; exact hB) e e'
    have HNO1 : Hid ((∀ u, Lib.atoiAll (ws.getD 1 []) ≠ .ok u) → stW ws = none) := fun e => stW_numNo1 (unhide HOP) (by rw [unhide HN]; exact hB) e
    have HNO2 : Hid ((∀ u, Lib.atoiAll (ws.getD 2 []) ≠ .ok u) → stW ws = none) := fun e => stW_numNo2 (unhide HOP) (by rw [unhide HN]; exact hB) e
    have c1 := unhide HCE _ (unhide HA) 1 (by omega)
    simp only [Nat.mul_one, Nat.add_zero] at c1
    have hw1 := unhide HLEN 1 (by omega)
    have hw2 := unhide HLEN 2 (by omega)
    have HC2 := hide (fun ww h => unhide HCE ww h 2 (by omega))
    generalize ws.getD 0 [] = l0 at *
    generalize ws.getD 1 [] = l1 at *
    generalize ws.getD 2 [] = l2 at *
    clear hA hB hoc
    go_enter Tryz.func44, Tryz.ntmps44
    go_wp2_with fail
    refine (unhide HD0 _).mono ?_; rintro e w1 ⟨rfl, rfl⟩
    go_wp2_with fail
    refine (unhide HAT l1 _ ((unhide HG).kept (unhide HA)) hw1).mono ?_; rintro e w2 ⟨v1, e1, rfl, hr1, hb2⟩
    have HWD2 := hide ((unhide HA).trans (hb2.mono (unhide HA).size))
    have HXD2 := hide ((unhide HX).kept hb2)
    have c2 := unhide HC2 _ (unhide HWD2)
    simp only [Nat.mul_one, Nat.add_zero] at c2
    clear hb2 c0 c1
    go_wp2_with fail
    refine (unhide HAT l2 _ ((unhide HG).kept (unhide HWD2)) hw2).mono ?_; rintro e w3 ⟨v2, e2, rfl, hr2, hb3⟩
    have HWD3 := hide ((unhide HWD2).trans (hb3.mono (unhide HWD2).size))
    have HXD3 := hide ((unhide HXD2).kept hb3)
    have q0 := (unhide HXD3).cell 0
    have q1 := (unhide HXD3).cell 1
    have q2 := (unhide HXD3).cell 2
    simp only [List.getElem?_toArray, List.getElem?_cons_zero, List.getElem?_cons_succ] at q0 q1 q2
    have lx := (unhide HXD3).lt
    have f0 := (unhide HXD3).free 0
    have f1 := (unhide HXD3).free 1
    have f2 := (unhide HXD3).free 2
    clear hb3 c2
    rcases hr1 with ⟨hr, rfl⟩ | ⟨hr, te, pe, rfl⟩
    · rcases hr2 with ⟨hs, rfl⟩ | ⟨hs, te, pe, rfl⟩
      · have HR := hide (unhide HOK _ _ hr hs)
        clear hr hs
        go_wp2_with fail
        refine bodyPost_ret (results_row_tmp rfl _ _ w.heap.size _ _ _ _ rfl ((unhide HXD3).set3 (.int .i64 op) (.int .i64 v1) (.int .i64 v2)).row Tryz.underlying35 rfl (by kernel_rfl)) rfl ?_
        exact ⟨⟨op, v1, v2⟩, true, rfl, .inl ⟨rfl, unhide HR⟩, below_set3 (unhide HWD3) (Nat.le_refl _) _ _ _⟩
      · have HR := hide (unhide HNO2 hs)
        clear hr hs
        go_wp2_with fail
        refine bodyPost_ret (results_row_tmp rfl _ _ w.heap.size _ _ _ _ rfl ((unhide HXD3).set3 (.int .i64 0) (.int .i64 0) (.int .i64 0)).row Tryz.underlying35 rfl (by kernel_rfl)) rfl ?_
        exact ⟨⟨0, 0, 0⟩, false, rfl, .inr ⟨rfl, unhide HR⟩, below_set3 (unhide HWD3) (Nat.le_refl _) _ _ _⟩
    · have HR := hide (unhide HNO1 hr)
      clear hr hr2
      go_wp2_with fail
      refine bodyPost_ret (results_row_tmp rfl _ _ w.heap.size _ _ _ _ rfl ((unhide HXD3).set3 (.int .i64 0) (.int .i64 0) (.int .i64 0)).row Tryz.underlying35 rfl (by kernel_rfl)) rfl ?_
      exact ⟨⟨0, 0, 0⟩, false, rfl, .inr ⟨rfl, unhide HR⟩, below_set3 (unhide HWD3) (Nat.le_refl _) _ _ _⟩

end Go.Proofs.YtedlhepbbefikaaGreatDoor
