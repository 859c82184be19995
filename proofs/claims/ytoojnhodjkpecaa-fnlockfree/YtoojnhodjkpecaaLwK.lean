/- The contracts of locks in the shape that the laws on drawn locks ask for. -/
import Derived.Test.YtoojnhodjkpecaaLkP2
import Derived.Test.YtoojnhodjkpecaaLoLk
import Derived.Test.YtoojnhodjkpecaaLkF2
import Derived.Test.YtoojnhodjkpecaaLkF1
namespace Go.Proofs.Ytoojnhodjkpecaa
open Go.RowKit

theorem askI_law (l : Lk) (a b : Value) (h : Hd) (w : World) (hv : LkAt w l a b) (hn : l.held.length ≤ 100) (hm : l.waits.length ≤ 100) :
    Calls Try.prog 18 #[lkV l a b, hdV h] w fun e w' => ∃ a0 c0 a1 c1 r c, e = .returned (.tuple #[lkV (askL l h) (.slice a0 (askL l h).held.length c0) (.slice a1 (askL l h).waits.length c1), .bool (askC l h), .slice r (askT l h).length c]) ∧ LkAt w' (askL l h) (.slice a0 (askL l h).held.length c0) (.slice a1 (askL l h).waits.length c1) ∧ RowAt hdE w' (.slice r (askT l h).length c) (askT l h) ∧ Below w.heap.size w w' := by
  refine (implAsk_any l a b h w hv (by omega) (by omega)).mono ?_
  rintro e w' ⟨a', b', r, rfl, ho, hr, hb⟩
  obtain ⟨a0, c0, a1, c1, rfl, rfl⟩ := ho.shape
  obtain ⟨r0, rc, rfl, -⟩ := hr.1.at'.shape
  exact ⟨a0, c0, a1, c1, r0, rc, rfl, ho.at, hr.1.at', hb⟩

theorem askS_law (l : Lk) (a b : Value) (h : Hd) (w : World) (hv : LkAt w l a b) (hn : l.held.length ≤ 100) (hm : l.waits.length ≤ 100) :
    Calls Try.prog 16 #[lkV l a b, hdV h] w fun e w' => ∃ a0 c0 a1 c1 r c, e = .returned (.tuple #[lkV (askL l h) (.slice a0 (askL l h).held.length c0) (.slice a1 (askL l h).waits.length c1), .bool (askC l h), .slice r (askT l h).length c]) ∧ LkAt w' (askL l h) (.slice a0 (askL l h).held.length c0) (.slice a1 (askL l h).waits.length c1) ∧ RowAt hdE w' (.slice r (askT l h).length c) (askT l h) ∧ Below w.heap.size w w' := by
  refine (specAskI_any l a b h w hv (by omega) (by omega)).mono ?_
  rintro e w' ⟨a', b', r, rfl, ho, hr, hb⟩
  obtain ⟨a0, c0, a1, c1, rfl, rfl⟩ := ho.shape
  obtain ⟨r0, rc, rfl, -⟩ := hr.1.at'.shape
  exact ⟨a0, c0, a1, c1, r0, rc, rfl, ho.at, hr.1.at', hb⟩

theorem freeI_law (l : Lk) (a b : Value) (s t : Int) (w : World) (hv : LkAt w l a b) (hn : l.held.length ≤ 100) (hm : l.waits.length ≤ 100) :
    Calls Try.prog 24 #[lkV l a b, .int .i64 s, .int .i64 t] w fun e w' => ∃ a0 c0 a1 c1 r c, e = .returned (.tuple #[lkV (freeL l s t) (.slice a0 (freeL l s t).held.length c0) (.slice a1 (freeL l s t).waits.length c1), .slice r (freeG l s t).length c]) ∧ LkAt w' (freeL l s t) (.slice a0 (freeL l s t).held.length c0) (.slice a1 (freeL l s t).waits.length c1) ∧ RowAt hdE w' (.slice r (freeG l s t).length c) (freeG l s t) ∧ Below w.heap.size w w' := by
  refine (implFree_any l a b s t w hv (by omega) (by omega)).mono ?_
  rintro e w' ⟨a', b', r, rfl, ho, hr, hb⟩
  obtain ⟨a0, c0, a1, c1, rfl, rfl⟩ := ho.shape
  obtain ⟨r0, rc, rfl, -⟩ := hr.1.at'.shape
  exact ⟨a0, c0, a1, c1, r0, rc, rfl, ho.at, hr.1.at', hb⟩

theorem freeS_law (l : Lk) (a b : Value) (s t : Int) (w : World) (hv : LkAt w l a b) (hn : l.held.length ≤ 100) (hm : l.waits.length ≤ 100) :
    Calls Try.prog 23 #[lkV l a b, .int .i64 s, .int .i64 t] w fun e w' => ∃ a0 c0 a1 c1 r c, e = .returned (.tuple #[lkV (freeL l s t) (.slice a0 (freeL l s t).held.length c0) (.slice a1 (freeL l s t).waits.length c1), .slice r (freeG l s t).length c]) ∧ LkAt w' (freeL l s t) (.slice a0 (freeL l s t).held.length c0) (.slice a1 (freeL l s t).waits.length c1) ∧ RowAt hdE w' (.slice r (freeG l s t).length c) (freeG l s t) ∧ Below w.heap.size w w' := by
  refine (specFreeI_any l a b s t w hv (by omega) (by omega)).mono ?_
  rintro e w' ⟨a', b', r, rfl, ho, hr, hb⟩
  obtain ⟨a0, c0, a1, c1, rfl, rfl⟩ := ho.shape
  obtain ⟨r0, rc, rfl, -⟩ := hr.1.at'.shape
  exact ⟨a0, c0, a1, c1, r0, rc, rfl, ho.at, hr.1.at', hb⟩

theorem firmI_law (l : Lk) (a b : Value) (s t : Int) (w : World) (hv : LkAt w l a b) (hn : l.held.length ≤ 100) (hm : l.waits.length ≤ 100) :
    Calls Try.prog 27 #[lkV l a b, .int .i64 s, .int .i64 t] w fun e w' => ∃ a0 c0 a1 c1, e = .returned (.tuple #[lkV (firmL l s t) (.slice a0 (firmL l s t).held.length c0) (.slice a1 (firmL l s t).waits.length c1), .bool (firmC l s t)]) ∧ LkAt w' (firmL l s t) (.slice a0 (firmL l s t).held.length c0) (.slice a1 (firmL l s t).waits.length c1) ∧ Below w.heap.size w w' := by
  refine (implFirm_any l a b s t w hv (by omega) (by omega)).mono ?_
  rintro e w' ⟨a', b', rfl, ho, hb⟩
  obtain ⟨a0, c0, a1, c1, rfl, rfl⟩ := ho.shape
  exact ⟨a0, c0, a1, c1, rfl, ho.at, hb⟩

theorem firmS_law (l : Lk) (a b : Value) (s t : Int) (w : World) (hv : LkAt w l a b) (hn : l.held.length ≤ 100) (hm : l.waits.length ≤ 100) :
    Calls Try.prog 26 #[lkV l a b, .int .i64 s, .int .i64 t] w fun e w' => ∃ a0 c0 a1 c1, e = .returned (.tuple #[lkV (firmL l s t) (.slice a0 (firmL l s t).held.length c0) (.slice a1 (firmL l s t).waits.length c1), .bool (firmC l s t)]) ∧ LkAt w' (firmL l s t) (.slice a0 (firmL l s t).held.length c0) (.slice a1 (firmL l s t).waits.length c1) ∧ Below w.heap.size w w' := by
  refine (specFirm_any l a b s t w hv (by omega) (by omega)).mono ?_
  rintro e w' ⟨a', b', rfl, ho, hb⟩
  obtain ⟨a0, c0, a1, c1, rfl, rfl⟩ := ho.shape
  exact ⟨a0, c0, a1, c1, rfl, ho.at, hb⟩

theorem lockOkI_law (l : Lk) (a b : Value) (w : World) (hv : LkAt w l a b) (hn : l.held.length ≤ 100) (hm : l.waits.length ≤ 100) :
    Calls Try.prog 21 #[lkV l a b] w fun e w' => e = .returned (.bool (lockOkB l)) ∧ Below w.heap.size w w' := by
  rw [← lockOk_eq]
  exact lockOkI_any l a b w hv (by omega) (by omega)

theorem lockOkS_law (l : Lk) (a b : Value) (w : World) (hv : LkAt w l a b) (hn : l.held.length ≤ 100) (hm : l.waits.length ≤ 100) :
    Calls Try.prog 17 #[lkV l a b] w fun e w' => e = .returned (.bool (lockOkB l)) ∧ Below w.heap.size w w' :=
  lockOk_any l a b w hv (by omega) (by omega)

end Go.Proofs.Ytoojnhodjkpecaa
