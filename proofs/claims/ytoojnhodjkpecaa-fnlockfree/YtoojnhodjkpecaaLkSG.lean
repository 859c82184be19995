/- The specification lets go of a lock. -/
import Derived.Test.YtoojnhodjkpecaaLkIF
import Derived.Test.YtoojnhodjkpecaaLkS6
import Derived.Deep.DeepCutAuto
namespace Go.Proofs.Ytoojnhodjkpecaa
open Go.RowKit Go.Shelf

theorem Fr.cell {w w' : World} {S : Nat → Prop} (h : Fr w w' S) {b o : Nat} {v : Value} (hn : ¬ S b) (hc : w.cell? ⟨b, o, none⟩ = some v) : w'.cell? ⟨b, o, none⟩ = some v := by
  have := h.block b (lt_of_cell hc) hn
  simp only [World.cell?] at hc ⊢
  rw [this]; exact hc
theorem Fr.rowAt {w w' : World} {S : Nat → Prop} {α : Type} {enc : α → List Value} {v : Value} {xs : List α} (h : Fr w w' S) (hr : RowAt enc w v xs) (hn : ∀ q, v.ownBlock = some q → ¬ S q) : RowAt enc w' v xs := by
  obtain ⟨a, cap, rfl, h1, h2, h3⟩ := hr
  refine ⟨a, cap, rfl, h1, h2, ?_⟩
  rcases h3 with h3 | ⟨b, off, rfl, hc⟩
  · exact .inl h3
  · exact .inr ⟨b, off, rfl, fun j u hj => h.cell (hn b rfl) (hc j u hj)⟩
theorem fr_set (w : World) (g j : Nat) (u : Value) : Fr w (w.setCell ⟨g, j, none⟩ u) (fun q => q = g) := (fr_gr (grownBy_set (grownBy_refl w (some g)) j u)).mono (fun k _ e => by simp at e; exact e.symm)

def freeStepS (s : Lk × List Hd) (x : Hd) : Lk × List Hd := if mayB s.1 x = true then (⟨s.1.slot, putL s.1.held x, withoutL s.1.waits x.stamp x.try_⟩, s.2 ++ [x]) else s
def freeToS (l : Lk) (s t : Int) (k : Nat) : Lk × List Hd := ((withoutL l.waits s t).take k).foldl freeStepS (⟨l.slot, withoutL l.held s t, withoutL l.waits s t⟩, [])
def freeSL (l : Lk) (s t : Int) : Lk := if lockOkB l = true then (freeToS l s t (withoutL l.waits s t).length).1 else ⟨0, [], []⟩
def freeSG (l : Lk) (s t : Int) : List Hd := if lockOkB l = true then (freeToS l s t (withoutL l.waits s t).length).2 else []

theorem freeToS_step (l : Lk) (s t : Int) (k : Nat) (h : k < (withoutL l.waits s t).length) : freeToS l s t (k + 1) = freeStepS (freeToS l s t k) ((withoutL l.waits s t).getD k Hd.z) := by
  unfold freeToS
  rw [List.take_succ_eq_append_getElem h, List.foldl_append]; simp [List.getD, h]
theorem putFold_len (h : Hd) : ∀ (l : List Hd) (s : List Hd × Bool), (s.2 = true → (l.foldl (putStep h) s).2 = true ∧ (l.foldl (putStep h) s).1.length = s.1.length + l.length) ∧ (s.2 = false → ((l.foldl (putStep h) s).2 = false → (l.foldl (putStep h) s).1.length = s.1.length + l.length) ∧ ((l.foldl (putStep h) s).2 = true → (l.foldl (putStep h) s).1.length = s.1.length + l.length + 1)) := by
  intro l
  induction l with
  | nil => intro s; refine ⟨fun h => ⟨h, rfl⟩, fun h => ⟨fun _ => rfl, fun h2 => ?_⟩⟩; simp [h] at h2
  | cons x r ih =>
    intro s
    rw [List.foldl_cons]
    have ih' := ih (putStep h s x)
    constructor
    · intro hs
      have e : putStep h s x = (s.1 ++ [x], true) := putS_A hs
      rw [e] at ih' ⊢
      have := ih'.1 rfl
      refine ⟨this.1, ?_⟩
      rw [this.2]; simp; omega
    · intro hs
      by_cases hlt : h.stamp < x.stamp
      · have e : putStep h s x = (s.1 ++ [h] ++ [x], true) := putS_B hs hlt
        rw [e] at ih' ⊢
        have := ih'.1 rfl
        refine ⟨fun h2 => ?_, fun _ => ?_⟩
        · rw [this.1] at h2; cases h2
        · rw [this.2]; simp; omega
      · have e : putStep h s x = (s.1 ++ [x], false) := putS_C hs hlt
        rw [e] at ih' ⊢
        have := ih'.2 rfl
        refine ⟨fun h2 => ?_, fun h2 => ?_⟩
        · rw [this.1 h2]; simp; omega
        · rw [this.2 h2]; simp; omega
theorem putL_length (hs : List Hd) (x : Hd) : (putL hs x).length = hs.length + 1 := by
  have := (putFold_len x hs ([], false)).2 rfl
  unfold putL
  split
  · rename_i h
    have := this.2 h
    simpa [putFold] using this
  · rename_i h
    have := this.1 (by simpa [putFold] using h)
    rw [List.length_append]
    have e : (putFold x hs).1.length = hs.length := by simpa [putFold] using this
    rw [e]; rfl
theorem freeToS_length (l : Lk) (s t : Int) (k : Nat) (h : k ≤ (withoutL l.waits s t).length) : (freeToS l s t k).1.held.length ≤ (withoutL l.held s t).length + k ∧ (freeToS l s t k).1.waits.length ≤ (withoutL l.waits s t).length ∧ (freeToS l s t k).2.length ≤ k := by
  induction k with
  | zero => simp [freeToS]
  | succ k ih =>
    have h1 := ih (by omega)
    rw [freeToS_step l s t k (by omega)]
    unfold freeStepS
    split
    · simp only [putL_length]
      have := without_length (freeToS l s t k).1.waits ((withoutL l.waits s t).getD k Hd.z).stamp ((withoutL l.waits s t).getD k Hd.z).try_
      refine ⟨by omega, by omega, ?_⟩
      simp; omega
    · omega

set_option maxRecDepth 100000 in
set_option maxHeartbeats 4000000 in
theorem specFree_any (l : Lk) (a b : Value) (s t : Int) (w : World) (hv : LkAt w l a b) (hn : l.held.length ≤ 1048576) (hm : l.waits.length ≤ 1048576) :
    Calls Try.prog 23 #[lkV l a b, .int .i64 s, .int .i64 t] w fun e w' => ∃ a' b' r, e = .returned (.tuple #[lkV (freeSL l s t) a' b', r]) ∧ OwnLk w' w.heap.size (freeSL l s t) a' b' ∧ (OwnR w' w.heap.size (freeSG l s t) r ∧ (r.ownBlock = none ∨ r.ownBlock ≠ a'.ownBlock) ∧ (r.ownBlock = none ∨ r.ownBlock ≠ b'.ownBlock)) ∧ Below w.heap.size w w' := by
  have HU := hide hv
  have HOK := hide (fun ww hk => lockOk_any l a b ww hk hn hm)
  have HCP := hide (fun ww hk h1 h2 => lkCopy_any l a b ww hk h1 h2)
  have hshape : ∃ a0 c0 a1 c1, a = .slice a0 l.held.length c0 ∧ b = .slice a1 l.waits.length c1 := by
    obtain ⟨a0, c0, rfl, -⟩ := hv.held.shape
    obtain ⟨a1, c1, rfl, -⟩ := hv.waits.shape
    exact ⟨a0, c0, a1, c1, rfl, rfl⟩
  obtain ⟨a0, c0, a1, c1, rfl, rfl⟩ := hshape
  clear hv
  obtain ⟨A0, hA0⟩ : ∃ A0, A0 = ((w.alloc (.cells #[.int .i64 l.slot, .slice a0 l.held.length c0, .slice a1 l.waits.length c1] 25)).alloc (.cells #[.int .i64 0, .slice none 0 0, .slice none 0 0] 25)).alloc (.cells #[] 27) := ⟨_, rfl⟩
  have HX0 : Hid (Bx A0 w.heap.size 25 #[.int .i64 l.slot, .slice a0 l.held.length c0, .slice a1 l.waits.length c1]) := by rw [hA0]; exact ((Bx.made w _ _).allocK).allocK
  have HR0 : Hid (Bx A0 (w.heap.size + 1) 25 #[.int .i64 0, .slice none 0 0, .slice none 0 0]) := by rw [hA0]; exact Bx.made2 w _ _ _ rfl
  have HG0 : Hid (A0.ownsRow (w.heap.size + 1 + 1) 27 4 (.slice (some ⟨w.heap.size + 1 + 1, 0, none⟩) 0 0) 0 []) := by
    rw [hA0]; exact ownsRow_madeS _ _ (by simp) (by simp)
  have HB0 : Hid (Below w.heap.size w A0) := by rw [hA0]; exact (((Below.refl _ _).alloc (Nat.le_refl _) _).alloc (by simp) _).alloc (by simp; omega) _
  have HA0 := hide hA0
  clear hA0
  cases hok : lockOkB l
  · have HF : Hid (freeSL l s t = ⟨0, [], []⟩ ∧ freeSG l s t = []) := by constructor <;> simp [freeSL, freeSG, hok]
    rw [hok] at HOK
    simp only [lkV] at *
    go_enter Try.func23, Try.ntmps23
    go_wp2_with fail
    rw [← unhide HA0]
    refine (unhide HOK _ ((unhide HU).kept (unhide HB0))).mono ?_; rintro e w1 ⟨rfl, hb1⟩
    have HR1 := hide ((unhide HR0).kept hb1)
    have HG1 := hide (ownsRow_below (unhide HG0) hb1)
    have HB1 := hide ((unhide HB0).trans (hb1.mono (unhide HB0).size))
    clear hb1
    obtain ⟨r0, r1, r2⟩ := (unhide HR1).three
    obtain ⟨f0, f1, f2⟩ := (unhide HR1).free3
    go_wp2_with fail
    refine bodyPost_ret (results_row_tmp rfl _ _ (w.heap.size + 1) _ _ _ _ rfl ((((unhide HR1).setC 0 (.int .i64 0)).setC 1 (.slice none 0 0)).setC 2 (.slice none 0 0)).row Try.underlying25 rfl (by kernel_rfl)) rfl ?_
    rw [(unhide HF).1, (unhide HF).2]
    have ng : (Value.slice (some ⟨w.heap.size + 1 + 1, 0, none⟩) 0 0).ownBlock ≠ some (w.heap.size + 1) := by simp [Value.ownBlock]
    have hR3 := ownsRow_setCell_other (j := 2) (u := .slice none 0 0) (ownsRow_setCell_other (j := 1) (u := .slice none 0 0) (ownsRow_setCell_other (j := 0) (u := .int .i64 0) (unhide HG1) ng) ng) ng
    exact ⟨.slice none 0 0, .slice none 0 0, .slice (some ⟨w.heap.size + 1 + 1, 0, none⟩) 0 0, ret_two rfl rfl, OwnLk.zero _ _, ⟨⟨RowAt.of_own (xs := ([] : List Hd)) hR3, (OwnK.of_own hR3).low (by omega)⟩, by simp [Value.ownBlock], by simp [Value.ownBlock]⟩, (((unhide HB1).setCell (by simp) _).setCell (by simp) _).setCell (by simp) _⟩
  obtain ⟨-, h16, hho, -, -, -⟩ := lockOk_parts hok
  have hasc := asc_of_holds hho
  have HOK1 := hide hok
  rw [hok] at HOK
  have HASC := hide hasc
  have HLN : Hid (l.held.length ≤ 1000) := by show l.held.length ≤ 1000; omega
  have HLM : Hid (l.waits.length ≤ 1000) := by show l.waits.length ≤ 1000; omega
  have hl16 : l.held.length ≤ 16 := by omega
  clear hok hho hasc h16 hn hm
  have HFL : Hid (freeSL l s t = (freeToS l s t (withoutL l.waits s t).length).1 ∧ freeSG l s t = (freeToS l s t (withoutL l.waits s t).length).2) := by constructor <;> simp [freeSL, freeSG, unhide HOK1]
  have HST := hide (fun k h => freeToS_step l s t k h)
  have HLE := hide (fun k h => freeToS_length l s t k h)
  have h16' : l.held.length + l.waits.length ≤ 16 := (lockOk_parts (unhide HOK1)).2.1
  have hwl := without_length l.held s t
  have hwl' := without_length l.waits s t
  have HZ : Hid (freeToS l s t 0 = (⟨l.slot, withoutL l.held s t, withoutL l.waits s t⟩, [])) := by show freeToS l s t 0 = _; simp [freeToS]
  have HWO := hide (fun v ww hv => without_any v l.held s t ww hv (unhide HLN))
  have HWO' := hide (fun v ww hv => without_any v l.waits s t ww hv (unhide HLM))
  rw [(unhide HFL).1, (unhide HFL).2]
  generalize freeToS l s t = ST at *
  generalize withoutL l.held s t = H' at *
  generalize withoutL l.waits s t = W' at *
  obtain ⟨slot, H, W⟩ := l
  simp only [lkV] at *
  have hM : W'.length ≤ 16 := by omega
  have HLE2 : Hid (∀ k, k ≤ W'.length → (ST k).1.held.length ≤ 1000 ∧ (ST k).1.waits.length ≤ 1000 ∧ (ST k).2.length ≤ 1000) := fun k hk => by have := unhide HLE k hk; omega
  clear HLE h16' hwl hwl' HFL
  go_enter Try.func23, Try.ntmps23
  go_wp2_with fail
  rw [← unhide HA0]
  refine (unhide HOK _ ((unhide HU).kept (unhide HB0))).mono ?_; rintro e w1 ⟨rfl, hb1⟩
  have HX1 := hide ((unhide HX0).kept hb1)
  have HR1 := hide ((unhide HR0).kept hb1)
  have HG1 := hide (ownsRow_below (unhide HG0) hb1)
  have HB1 := hide ((unhide HB0).trans (hb1.mono (unhide HB0).size))
  clear hb1 HX0 HR0 HB0 HA0 HG0
  obtain ⟨q0, q1, q2⟩ := (unhide HX1).three
  go_wp2_with fail
  refine (unhide HCP _ ((unhide HU).kept (unhide HB1)) (unhide HLN) (unhide HLM)).mono ?_; rintro e w2 ⟨a', b', rfl, hoa, hob, -, hb2⟩
  have l1 := ((unhide HG1).lt (w.heap.size + 1 + 1) rfl).2
  obtain ⟨a2, ca, rfl, -⟩ := ownsRow_slice hoa
  obtain ⟨a3, cb, rfl, -⟩ := ownsRow_slice hob
  have bW : Below w2.heap.size w2 (w2.alloc (.cells #[.int .i64 slot, .slice a2 H.length ca, .slice a3 W.length cb] 25)) := (Below.refl _ _).alloc (Nat.le_refl _) _
  have HR2 := hide (((unhide HR1).kept hb2).kept bW)
  have HG2 := hide (ownsRow_below (ownsRow_below (unhide HG1) hb2) bW)
  have HN2 := hide (Bx.made w2 25 #[.int .i64 slot, .slice a2 H.length ca, .slice a3 W.length cb])
  have b2 := (unhide HB1).trans (hb2.mono (unhide HB1).size)
  have HB2 := hide (b2.trans (bW.mono b2.size))
  have HH2 := hide ((RowAt.of_own hoa).kept bW)
  have HW2 := hide ((RowAt.of_own hob).kept bW)
  have HGW := hide (fun q hq => (hob.lt q hq))
  have hz2 := hb2.size
  have lN := (unhide HN2).lt
  clear hoa hob hb2 bW b2 HX1 HR1 HB1 q0 q1 q2 HG1
  obtain ⟨n0, n1, n2⟩ := (unhide HN2).three
  go_wp2_with fail
  refine (unhide HWO _ _ (unhide HH2)).mono ?_; rintro e w3 ⟨r3, rfl, ho3, hb3⟩
  obtain ⟨a4, cc, rfl, -⟩ := ownsRow_slice ho3
  have hz3 := hb3.size
  simp at hz3
  have HN3 := hide ((unhide HN2).kept hb3)
  have HR3 := hide ((unhide HR2).kept hb3)
  have HG3 := hide (ownsRow_below (unhide HG2) hb3)
  have HB3 := hide ((unhide HB2).trans (hb3.mono (unhide HB2).size))
  have HW3 := hide ((unhide HW2).kept hb3)
  have HO3 := hide ho3
  clear ho3 hb3 HN2 HR2 HG2 HB2 HW2 HH2 n0 n1 n2
  obtain ⟨n0, n1, n2⟩ := (unhide HN3).three
  obtain ⟨f0, f1, f2⟩ := (unhide HN3).free3
  have hg3 := grownBy_set (grownBy_refl w3 (some w2.heap.size)) 1 (.slice a4 H'.length cc)
  have HN4 : Hid (Bx (w3.setCell ⟨w2.heap.size, 1, none⟩ (.slice a4 H'.length cc)) w2.heap.size 25 #[.int .i64 slot, .slice a4 H'.length cc, .slice a3 W.length cb]) := hide (by have := (unhide HN3).setC 1 (.slice a4 H'.length cc); simpa using this)
  have HR4 := hide ((unhide HR3).far hg3 (by intro e; simp at e; omega))
  have HG4 := hide ((unhide HG3).kept hg3 (.inr (by simp [Value.ownBlock]; omega)))
  have HB4 : Hid (Below w.heap.size w (w3.setCell ⟨w2.heap.size, 1, none⟩ (.slice a4 H'.length cc))) := (unhide HB3).setCell (by show w.heap.size ≤ w2.heap.size; omega) _
  have HW4 := hide ((unhide HW3).far hg3 (.inr (fun e => by have := (unhide HGW _ e).2; omega)))
  have ng4 : (Value.slice a4 H'.length cc).ownBlock ≠ some w2.heap.size := fun e => by have := ((unhide HO3).lt _ e).1; simp at this; omega
  have HO4 := hide ((unhide HO3).kept hg3 (.inr ng4))
  have hz4 : (w3.setCell ⟨w2.heap.size, 1, none⟩ (.slice a4 H'.length cc)).heap.size = w3.heap.size := by simp [World.setCell]
  obtain ⟨v4, hv4⟩ : ∃ v4, v4 = w3.setCell ⟨w2.heap.size, 1, none⟩ (.slice a4 H'.length cc) := ⟨_, rfl⟩
  have HV4 := hide hv4
  rw [← hv4] at HN4 HR4 HG4 HB4 HW4 HO4 hz4
  clear hv4 hg3
  obtain ⟨m0, m1, m2⟩ := (unhide HN4).three
  rw [unhide HV4] at m0 m1 m2
  go_wp2_with fail
  rw [← unhide HV4]
  clear n0 n1 n2 f0 f1 f2 m0 m1 m2
  refine (unhide HWO' _ _ (unhide HW4)).mono ?_; rintro e w5 ⟨r5, rfl, ho5, hb5⟩
  obtain ⟨a5, cd, rfl, -⟩ := ownsRow_slice ho5
  have hz5 := hb5.size
  have HN5 := hide ((unhide HN4).kept hb5)
  have HR5 := hide ((unhide HR4).kept hb5)
  have HG5 := hide (ownsRow_below (unhide HG4) hb5)
  have HB5 := hide ((unhide HB4).trans (hb5.mono (unhide HB4).size))
  have HO5 := hide (ownsRow_below (unhide HO4) hb5)
  have HP5 := hide ho5
  have HLH := hide (fun q hq => (unhide HO3).lt q hq)
  clear ho5 hb5 HN4 HR4 HG4 HB4 HO4 HW4 HV4 HN3 HR3 HG3 HB3 HW3 HO3
  obtain ⟨n0, n1, n2⟩ := (unhide HN5).three
  obtain ⟨f0, f1, f2⟩ := (unhide HN5).free3
  have hg5 := grownBy_set (grownBy_refl w5 (some w2.heap.size)) 2 (.slice a5 W'.length cd)
  have HN6 : Hid (Bx (w5.setCell ⟨w2.heap.size, 2, none⟩ (.slice a5 W'.length cd)) w2.heap.size 25 #[.int .i64 slot, .slice a4 H'.length cc, .slice a5 W'.length cd]) := hide (by have := (unhide HN5).setC 2 (.slice a5 W'.length cd); simpa using this)
  have HR6 := hide ((unhide HR5).far hg5 (by intro e; simp at e; omega))
  have HG6 := hide ((unhide HG5).kept hg5 (.inr (by simp [Value.ownBlock]; omega)))
  have HB6 : Hid (Below w.heap.size w (w5.setCell ⟨w2.heap.size, 2, none⟩ (.slice a5 W'.length cd))) := (unhide HB5).setCell (by show w.heap.size ≤ w2.heap.size; omega) _
  have ng5 : (Value.slice a5 W'.length cd).ownBlock ≠ some w2.heap.size := fun e => by have := ((unhide HP5).lt _ e).1; omega
  have HO6 := hide ((unhide HO5).kept hg5 (.inr ng4))
  have HP6 := hide ((unhide HP5).kept hg5 (.inr ng5))
  have hz6 : (w5.setCell ⟨w2.heap.size, 2, none⟩ (.slice a5 W'.length cd)).heap.size = w5.heap.size := by simp [World.setCell]
  have HNE : Hid ((Value.slice a4 H'.length cc).ownBlock = none ∨ (Value.slice a4 H'.length cc).ownBlock ≠ (Value.slice a5 W'.length cd).ownBlock) := by
    cases hq : (Value.slice a4 H'.length cc).ownBlock with
    | none => exact .inl rfl
    | some q =>
      right; intro e
      have h1 := (unhide HLH q hq).2
      have h2 := ((unhide HP5).lt q e.symm).1
      omega
  obtain ⟨v6, hv6⟩ : ∃ v6, v6 = w5.setCell ⟨w2.heap.size, 2, none⟩ (.slice a5 W'.length cd) := ⟨_, rfl⟩
  have HV6 := hide hv6
  rw [← hv6] at HN6 HR6 HG6 HB6 HO6 HP6 hz6
  clear hv6 hg5
  obtain ⟨m0, m1, m2⟩ := (unhide HN6).three
  rw [unhide HV6] at m0 m1 m2
  have hgr : w1.heap.size ≤ w2.heap.size := hz2
  go_wp2_with fail
  rw [← unhide HV6]
  clear n0 n1 n2 f0 f1 f2 m0 m1 m2
  have hv2 : w2.heap.size < v6.heap.size := (unhide HN6).lt
  have HPL := hide (fun q hq => (unhide HP6).lt q hq)
  go_loopw [8, 11] (fun r i wr => ∃ k : Nat, k ≤ W'.length ∧ i = .int .i64 k ∧ ∃ a b, Bx wr w2.heap.size 25 #[.int .i64 (ST k).1.slot, a, b] ∧ OwnLk wr (w.heap.size + 1 + 1) (ST k).1 a b ∧ wr.ownsRow (w.heap.size + 1 + 1) 27 4 r (ST k).2.length ((ST k).2.flatMap hdE) ∧ RowAt hdE wr (.slice a5 W'.length cd) W' ∧ (r.ownBlock = none ∨ r.ownBlock ≠ a.ownBlock) ∧ (r.ownBlock = none ∨ r.ownBlock ≠ b.ownBlock) ∧ ((Value.slice a5 W'.length cd).ownBlock = none ∨ (Value.slice a5 W'.length cd).ownBlock ≠ r.ownBlock) ∧ a.ownBlock ≠ some w2.heap.size ∧ b.ownBlock ≠ some w2.heap.size ∧ r.ownBlock ≠ some w2.heap.size ∧ Bx wr (w.heap.size + 1) 25 #[.int .i64 0, .slice none 0 0, .slice none 0 0] ∧ Below w.heap.size w wr ∧ v6.heap.size ≤ wr.heap.size) (fun _ i _ => W'.length - (intOf i).toNat)
  case atStart =>
    refine ⟨0, Nat.zero_le _, rfl, ?_⟩
    rw [unhide HZ]
    exact ⟨_, _, unhide HN6, ⟨ownsRow_base (unhide HO6) (by simp; omega), ownsRow_base (unhide HP6) (by omega), unhide HNE⟩, unhide HG6, RowAt.of_own (unhide HP6), .inr (fun e => by have := (unhide HLH _ e.symm).1; simp at this; omega), .inr (fun e => by have := ((unhide HP6).lt _ e.symm).1; dsimp only at this; omega), .inr (fun e => by have := ((unhide HP6).lt _ e).1; dsimp only at this; omega), ng4, ng5, by simp [Value.ownBlock]; omega, unhide HR6, unhide HB6, Nat.le_refl _⟩
  case round =>
    clear HR6 HN6 HO6 HP6 HB6 HNE HG6 HN5 HR5 HG5 HB5 HO5 HP5 HV6
    obtain ⟨k, hk, rfl, a, b, hbx, hol, hor, hw, e1, e2, e5, g1, g2, g3, hrx, hb, hsz⟩ := hrel
    obtain ⟨pa, pc, pb, pd, rfl, rfl⟩ := hol.shape
    obtain ⟨ra, rc, rfl, -⟩ := ownsRow_slice hor
    have HOL := hide hol
    have HOR := hide hor
    have HWR := hide hw
    have HBX := hide hbx
    have HRX := hide hrx
    have HB := hide hb
    have E1 := hide e1
    have E2 := hide e2
    have E5 := hide e5
    have G1 := hide g1
    have G2 := hide g2
    have G3 := hide g3
    clear hol hor hw hbx hrx hb e1 e2 e5 g1 g2 g3
    have l1' : w.heap.size + 1 < w.heap.size + 1 + 1 := by omega
    by_cases hlt : k < W'.length
    case neg =>
      obtain rfl : k = W'.length := by omega
      obtain ⟨r0, r1, r2⟩ := (unhide HRX).three
      obtain ⟨f0, f1, f2⟩ := (unhide HRX).free3
      obtain ⟨n0, n1, n2⟩ := (unhide HBX).three
      have lt' : ¬ (W'.length : Int) < (W'.length : Int) := by omega
      generalize hFS : ST W'.length = FS at *
      have HFSE := hide hFS
      clear hFS
      go_wp2_with fail
      have HRZ := hide ((((unhide HRX).setC 0 (.int .i64 FS.1.slot)).setC 1 (.slice pa FS.1.held.length pc)).setC 2 (.slice pb FS.1.waits.length pd))
      refine bodyPost_ret (results_row_tmp rfl _ _ (w.heap.size + 1) _ _ _ _ rfl (unhide HRZ).row Try.underlying25 rfl (by kernel_rfl)) rfl ?_
      have hO3 := (((unhide HOL).set (g := w.heap.size + 1) l1' 0 (.int .i64 FS.1.slot)).set (g := w.heap.size + 1) l1' 1 (.slice pa FS.1.held.length pc)).set (g := w.heap.size + 1) l1' 2 (.slice pb FS.1.waits.length pd)
      have ng : (Value.slice ra FS.2.length rc).ownBlock ≠ some (w.heap.size + 1) := fun e => by have := ((unhide HOR).lt _ e).1; omega
      have hR3 := ownsRow_setCell_other (j := 2) (u := .slice pb FS.1.waits.length pd) (ownsRow_setCell_other (j := 1) (u := .slice pa FS.1.held.length pc) (ownsRow_setCell_other (j := 0) (u := .int .i64 FS.1.slot) (unhide HOR) ng) ng) ng
      rw [unhide HFSE]
      exact ⟨.slice pa FS.1.held.length pc, .slice pb FS.1.waits.length pd, .slice ra FS.2.length rc, ret_two rfl rfl, hO3.low (by omega), ⟨⟨RowAt.of_own hR3, (OwnK.of_own hR3).low (by omega)⟩, unhide E1, unhide E2⟩, (((unhide HB).setCell (by simp) _).setCell (by simp) _).setCell (by simp) _⟩
    obtain ⟨ll1, ll2, ll3⟩ := unhide HLE2 k (by omega)
    have hstep := unhide HST k hlt
    obtain ⟨bb, off, ha5⟩ := (unhide HWR).some_of (show 0 < W'.length by omega)
    subst ha5
    obtain ⟨c0, c1, c2, c3⟩ := hd_cells (unhide HWR) (i := k) hlt
    have HXC := hide (fun (ww : World) (hr : RowAt hdE ww (.slice (some ⟨bb, off, none⟩) W'.length cd) W') => hd_cells hr (i := k) hlt)
    generalize W'.getD k Hd.z = x at *
    have HSS := hide hstep
    have HFS : Hid (freeStepS (ST k) x = if mayB (ST k).1 x = true then (⟨(ST k).1.slot, putL (ST k).1.held x, withoutL (ST k).1.waits x.stamp x.try_⟩, (ST k).2 ++ [x]) else ST k) := rfl
    clear hstep
    have HMA := hide (fun a b ww hk => may_any (ST k).1 a b x ww hk)
    have HPU := hide (fun v ww hv => put_any v (ST k).1.held x ww hv ll1)
    have HWT := hide (fun v ww hv => without_any v (ST k).1.waits x.stamp x.try_ ww hv ll2)
    generalize hS : ST k = S at *
    have HSE := hide hS
    clear hS
    obtain ⟨⟨sl, SH, SW⟩, SG⟩ := S
    unfold hdV lkV at *
    simp only at *
    have zz := (unhide HB).size
    have hkI : (k : Int) < (W'.length : Int) := by omega
    have hk0 : (0 : Int) ≤ (k : Int) := by omega
    obtain ⟨n0, n1, n2⟩ := (unhide HBX).three
    have p0 := fun d os => cell_regrown n0 d os
    have p1 := fun d os => cell_regrown n1 d os
    have p2 := fun d os => cell_regrown n2 d os
    have q0 := fun d os => cell_regrown c0 d os
    have q1 := fun d os => cell_regrown c1 d os
    have q2 := fun d os => cell_regrown c2 d os
    have q3 := fun d os => cell_regrown c3 d os
    have HMY : Hid (∀ d os, Calls Try.prog 46 #[.agg #[.int .i64 sl, .slice pa SH.length pc, .slice pb SW.length pd], .agg #[.int .i64 x.stamp, .int .i64 x.try_, .bool x.share, .bool x.firm]] (Go.Sort.grow (redrawn wr d) os) fun e w' => e = .returned (.bool (mayB ⟨sl, SH, SW⟩ x)) ∧ Below (Go.Sort.grow (redrawn wr d) os).heap.size (Go.Sort.grow (redrawn wr d) os) w') := fun d os => unhide HMA _ _ _ ((unhide HOL).at.kept (below_regrown _ d os))
    clear n0 n1 n2 c0 c1 c2 c3 HMA
    cases tm : mayB ⟨sl, SH, SW⟩ x
    case false =>
      rw [tm] at HMY
      have HN2 : Hid (ST (k + 1) = (⟨sl, SH, SW⟩, SG)) := by show ST (k + 1) = (⟨sl, SH, SW⟩, SG); rw [unhide HSS, unhide HFS, tm]; rfl
      clear tm
      go_wp2_with fail
      refine wp_region_quiet_below (by kernel_rfl) (by kernel_rfl) ?_
      repeat (go_big_quiet_step ((go_at_call 46; refine Calls.regrown_of (unhide HMY _ _))))
      refine wpQuiet_nil ?_
      intro w9 hw9
      have hb9 : Below wr.heap.size wr w9 := by obtain ⟨p, e⟩ := hw9; rw [e]; exact below_regrown _ _ _
      clear hw9 p0 p1 p2 q0 q1 q2 q3
      have z9 := hb9.size
      have HB9 := hide hb9
      clear hb9
      go_wp2_with fail
      go_roundw
      case rel =>
        refine ⟨k + 1, hlt, by go_num, ?_⟩
        rw [unhide HN2]
        exact ⟨_, _, (unhide HBX).kept (unhide HB9), (unhide HOL).kept (unhide HB9), ownsRow_below (unhide HOR) (unhide HB9), (unhide HWR).kept (unhide HB9), unhide E1, unhide E2, unhide E5, unhide G1, unhide G2, unhide G3, (unhide HRX).kept (unhide HB9), (unhide HB).trans ((unhide HB9).mono zz), by omega⟩
      case measure => simp [intOf]; omega
    rw [tm] at HMY
    have HN2 : Hid (ST (k + 1) = (⟨sl, putL SH x, withoutL SW x.stamp x.try_⟩, SG ++ [x])) := by show ST (k + 1) = _; rw [unhide HSS, unhide HFS, tm]; rfl
    clear tm
    go_wp2_with fail
    refine wp_region_quiet_below (by kernel_rfl) (by kernel_rfl) ?_
    repeat (go_big_quiet_step ((go_at_call 46; refine Calls.regrown_of (unhide HMY _ _))))
    refine wpQuiet_nil ?_
    intro w9 hw9
    have hb9 : Below wr.heap.size wr w9 := by obtain ⟨p, e⟩ := hw9; rw [e]; exact below_regrown _ _ _
    clear hw9 p0 p1 p2 q0 q1 q2 q3
    have z9 := hb9.size
    have HBX9 := hide ((unhide HBX).kept hb9)
    have HOL9 := hide ((unhide HOL).kept hb9)
    have HOR9 := hide (ownsRow_below (unhide HOR) hb9)
    have HWR9 := hide ((unhide HWR).kept hb9)
    have HRX9 := hide ((unhide HRX).kept hb9)
    have HB9 := hide ((unhide HB).trans (hb9.mono zz))
    clear hb9 HBX HOL HOR HWR HRX HB
    obtain ⟨n0, n1, n2⟩ := (unhide HBX9).three
    obtain ⟨c0, c1, c2, c3⟩ := unhide HXC _ (unhide HWR9)
    go_wp2_with fail
    go_cut [58] (fun v wz => ∃ sa sc, v = .slice sa (withoutL SW x.stamp x.try_).length sc ∧ wz.ownsRow w9.heap.size 27 4 v (withoutL SW x.stamp x.try_).length ((withoutL SW x.stamp x.try_).flatMap hdE) ∧ Bx wz w2.heap.size 25 #[.int .i64 sl, .slice pa SH.length pc, v] ∧ Fr w9 wz (fun q => q = w2.heap.size))
    case first =>
      go_region_law ((go_simp; go_at_call 44; refine (unhide HWT _ w9.drew ((unhide HOL9).at.waits.drewK)).mono ?_; rintro e w8 ⟨r, rfl, ho8, hb8⟩; have HX8 := hide (((unhide HBX9).drewK).kept hb8); have n0' := (unhide HX8).cell 0; have n1' := (unhide HX8).cell 1; have n2' := (unhide HX8).cell 2; have f0' := (unhide HX8).free 0; have f1' := (unhide HX8).free 1; have f2' := (unhide HX8).free 2; obtain ⟨sa, sc, rfl, -⟩ := ownsRow_slice ho8; simp at n0' n1' n2'; have HO8 := hide ho8; have HB8 := hide hb8; clear ho8 hb8))
      all_goals
        go_wp2_with fail
        go_meet
        case rel =>
          have lb := (unhide HBX9).lt
          have ng : (Value.slice sa (withoutL SW x.stamp x.try_).length sc).ownBlock ≠ some w2.heap.size := fun e => by have := ((unhide HO8).lt _ e).1; simp at this; omega
          refine ⟨sa, sc, rfl, ownsRow_setCell_other (unhide HO8) ng, ?_, ?_⟩
          · have := (unhide HX8).setC 2 (.slice sa (withoutL SW x.stamp x.try_).length sc)
            simpa using this
          · exact (fr_drewS (fr_below (unhide HB8) _)).set _ _ _ (fun _ => rfl)
    case rest =>
      obtain ⟨sa, sc, rfl, hoz, hbz, hfz⟩ := hcut
      have zz2 := hfz.size
      have ngs : (Value.slice sa (withoutL SW x.stamp x.try_).length sc).ownBlock ≠ some w2.heap.size := fun e => by have := (hoz.lt _ e).1; have := (unhide HBX9).lt; omega
      have HOZ := hide hoz
      have HBZ := hide hbz
      have HHZ := hide (hfz.row (unhide HOL9).held (fun q hq e => by subst e; exact unhide G1 hq))
      have HORZ := hide (hfz.row (unhide HOR9) (fun q hq e => by subst e; exact unhide G3 hq))
      have HWRZ := hide (hfz.rowAt (unhide HWR9) (fun q hq e => by subst e; have := (unhide HPL _ hq).1; omega))
      have HRXZ := hide (hfz.bx (unhide HRX9) (by omega))
      have HBBZ := hide (hfz.below (unhide HB9) (unhide HB9).size (fun q hq e => by omega))
      have HL1 := hide (fun q hq => ((unhide HOL9).held.lt q hq).2)
      have HL3 := hide (fun q hq => ((unhide HOR9).lt q hq).2)
      clear hoz hbz hfz n0 n1 n2 c0 c1 c2 c3 HOL9 HOR9 HWR9 HRX9 HB9 HBX9
      rename World => wz
      obtain ⟨n0, n1, n2⟩ := (unhide HBZ).three
      obtain ⟨c0, c1, c2, c3⟩ := unhide HXC _ (unhide HWRZ)
      go_wp2_with fail
      go_cut [66] (fun v wy => ∃ ta tc, v = .slice ta (putL SH x).length tc ∧ wy.ownsRow wz.heap.size 27 4 v (putL SH x).length ((putL SH x).flatMap hdE) ∧ Bx wy w2.heap.size 25 #[.int .i64 sl, v, .slice sa (withoutL SW x.stamp x.try_).length sc] ∧ Fr wz wy (fun q => q = w2.heap.size))
      case first =>
        go_region_law ((go_simp; go_at_call 47; refine (unhide HPU _ wz.drew ((RowAt.of_own (unhide HHZ)).drewK)).mono ?_; rintro e w8 ⟨r, rfl, ho8, hb8⟩; have HX8 := hide (((unhide HBZ).drewK).kept hb8); have n0' := (unhide HX8).cell 0; have n1' := (unhide HX8).cell 1; have n2' := (unhide HX8).cell 2; have f0' := (unhide HX8).free 0; have f1' := (unhide HX8).free 1; have f2' := (unhide HX8).free 2; obtain ⟨ta, tc, rfl, -⟩ := ownsRow_slice ho8; simp at n0' n1' n2'; have HO8 := hide ho8; have HB8 := hide hb8; clear ho8 hb8))
        all_goals
          go_wp2_with fail
          go_meet
          case rel =>
            have lb := (unhide HBZ).lt
            have ng : (Value.slice ta (putL SH x).length tc).ownBlock ≠ some w2.heap.size := fun e => by have := ((unhide HO8).lt _ e).1; simp at this; omega
            refine ⟨ta, tc, rfl, ownsRow_setCell_other (unhide HO8) ng, ?_, ?_⟩
            · have := (unhide HX8).setC 1 (.slice ta (putL SH x).length tc)
              simpa using this
            · exact (fr_drewS (fr_below (unhide HB8) _)).set _ _ _ (fun _ => rfl)
      case rest =>
        obtain ⟨ta, tc, rfl, hoy, hby, hfy⟩ := hcut
        have zz3 := hfy.size
        have ngt : (Value.slice ta (putL SH x).length tc).ownBlock ≠ some w2.heap.size := fun e => by have := (hoy.lt _ e).1; have := (unhide HBZ).lt; omega
        have HOY := hide hoy
        have HBY := hide hby
        have HSY := hide (hfy.row (unhide HOZ) (fun q hq e => by subst e; exact ngs hq))
        have HORY := hide (hfy.row (unhide HORZ) (fun q hq e => by subst e; exact unhide G3 hq))
        have HWRY := hide (hfy.rowAt (unhide HWRZ) (fun q hq e => by subst e; have := (unhide HPL _ hq).1; omega))
        have HRXY := hide (hfy.bx (unhide HRXZ) (by omega))
        have HBBY := hide (hfy.below (unhide HBBZ) (unhide HBBZ).size (fun q hq e => by omega))
        have HLS := hide (fun q hq => (unhide HOZ).lt q hq)
        clear hoy hby hfy n0 n1 n2 c0 c1 c2 c3 HOZ HORZ HWRZ HRXZ HBBZ HBZ HHZ
        rename World => wy
        obtain ⟨c0, c1, c2, c3⟩ := unhide HXC _ (unhide HWRY)
        obtain ⟨i0, hi, hz0, hz1, hz2'⟩ := info_parts Try.infoHd
        have D1 : Hid ((Value.slice ra SG.length rc).ownBlock = none ∨ (Value.slice ra SG.length rc).ownBlock ≠ (Value.slice ta (putL SH x).length tc).ownBlock) := by
          cases hq : (Value.slice ra SG.length rc).ownBlock with
          | none => exact .inl rfl
          | some q =>
            right; intro e
            have h1 := unhide HL3 q hq
            have h2 := ((unhide HOY).lt q e.symm).1
            omega
        have D2 : Hid ((Value.slice ra SG.length rc).ownBlock = none ∨ (Value.slice ra SG.length rc).ownBlock ≠ (Value.slice sa (withoutL SW x.stamp x.try_).length sc).ownBlock) := by
          cases hq : (Value.slice ra SG.length rc).ownBlock with
          | none => exact .inl rfl
          | some q =>
            right; intro e
            have h1 := unhide HL3 q hq
            have h2 := (unhide HLS q e.symm).1
            omega
        have D3 : Hid ((Value.slice ta (putL SH x).length tc).ownBlock = none ∨ (Value.slice ta (putL SH x).length tc).ownBlock ≠ (Value.slice sa (withoutL SW x.stamp x.try_).length sc).ownBlock) := by
          cases hq : (Value.slice ta (putL SH x).length tc).ownBlock with
          | none => exact .inl rfl
          | some q =>
            right; intro e
            have h1 := ((unhide HOY).lt q hq).1
            have h2 := (unhide HLS q e.symm).2
            omega
        go_wp2_with (at_builtin; refine wpList_append_at rfl _ _ 23 rfl (w.heap.size + 1 + 1) 27 i0 (.agg #[.int .i64 0, .int .i64 0, .bool false, .bool false]) 4 24 Try.underlying23 hi hz0 hz1 hz2' rfl (by decide) _ SG.length _ rfl ((unhide HORY).alloc _) (some ⟨wy.heap.size, 0, none⟩) 1 1 [.int .i64 x.stamp, .int .i64 x.try_, .bool x.share, .bool x.firm] rfl rfl (.inr ⟨by decide, _, rfl, World.news_of_block (heap_alloc_new _ _)⟩) (by simp [Value.oneCell']) (by unfold maxLen; omega) (by omega) (by simp; omega) (wy.heap.size + 1) (by simp) ?_; intro b9 cap9 w10 hown9 hgrow9 hat9; have HO9 := hide hown9; have HG9 := hide hgrow9; have HT9 := hide hat9; clear hown9 hgrow9 hat9)
        have hz9 := (unhide HG9).size
        simp at hz9
        have hat : (Value.slice b9 (SG.length + 1) cap9).ownBlock = (Value.slice ra SG.length rc).ownBlock ∨ ∃ q, (Value.slice b9 (SG.length + 1) cap9).ownBlock = some q ∧ wy.heap.size ≤ q := (unhide HT9).elim .inl (fun e => .inr ⟨_, e, by omega⟩)
        have bC : Below wy.heap.size wy (wy.alloc (.cells #[.int .i64 x.stamp, .int .i64 x.try_, .bool x.share, .bool x.firm] 27)) := (Below.refl _ _).alloc (Nat.le_refl _) _
        go_roundw
        case rel =>
          refine ⟨k + 1, hlt, by go_num, ?_⟩
          rw [unhide HN2]
          refine ⟨.slice ta (putL SH x).length tc, .slice sa (withoutL SW x.stamp x.try_).length sc, ((unhide HBY).kept bC).far (unhide HG9) (fun e => unhide G3 e.symm), ⟨ownsRow_base ((ownsRow_below (unhide HOY) bC).kept (unhide HG9) (ne_sym (unhide D1))) (by omega), ownsRow_base ((ownsRow_below (unhide HSY) bC).kept (unhide HG9) (ne_sym (unhide D2))) (by omega), unhide D3⟩, ?_, ((unhide HWRY).kept bC).far (unhide HG9) (unhide E5), ne_sym (ne_alt hat (ne_sym (unhide D1)) (fun q hq => ((unhide HOY).lt q hq).2)), ne_sym (ne_alt hat (ne_sym (unhide D2)) (fun q hq => by have := (unhide HLS q hq).2; omega)), ne_alt hat (unhide E5) (fun q hq => by have := (unhide HPL q hq).2; omega), ngt, ngs, ne_altS hat (unhide G3) (by omega), ((unhide HRXY).kept bC).far (unhide HG9) (fun e => by have := ((unhide HORY).lt _ e.symm).1; omega), Below.grown ((unhide HBBY).alloc (unhide HBBY).size _) (unhide HG9) (by simp; have := (unhide HBBY).size; omega) (fun q hq => by have := ((unhide HORY).lt _ hq).1; omega), by omega⟩
          rw [List.flatMap_append, List.length_append]; exact unhide HO9
        case measure => simp [intOf]; omega

end Go.Proofs.Ytoojnhodjkpecaa
