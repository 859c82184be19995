/- A lock that is being drawn: what holds of it between the steps. -/
import Derived.Test.YtoojnhodjkpecaaDrL1
import Derived.Test.YtoojnhodjkpecaaLkAE
import Derived.Test.YtoojnhodjkpecaaLkF1
namespace Go.Proofs.Ytoojnhodjkpecaa
open Go.RowKit

theorem ask_40 (l : Lk) (h : Hd) : (askL l h).held.length ≤ 40 ∧ (askL l h).waits.length ≤ 40 := by
  have e1 := stay_length (takesB h) (withoutL l.held h.stamp h.try_)
  have e3 := without_length l.held h.stamp h.try_
  have e4 := without_length l.waits h.stamp h.try_
  cases hk : lockOkB l
  · rw [(ask_no hk).1]; simp
  · have h16 := (lockOk_parts hk).2.1
    unfold askL
    rw [if_pos hk]
    split
    · omega
    · have := letIn_length (askRest l h) h
      simp only [askRest] at this ⊢
      omega

theorem free_40 (l : Lk) (s t : Int) : (freeL l s t).held.length ≤ 40 ∧ (freeL l s t).waits.length ≤ 40 := by
  unfold freeL
  split
  · rename_i h
    have h1 := (lockOk_parts h).2.1
    have h2 := freeTo_length l s t _ (Nat.le_refl _)
    have h3 := without_length l.held s t
    have h4 := without_length l.waits s t
    omega
  · simp

theorem firm_40 (l : Lk) (s t : Int) : (firmL l s t).held.length ≤ 40 ∧ (firmL l s t).waits.length ≤ 40 := by
  unfold firmL
  split
  · rename_i h
    have h1 := (lockOk_parts h).2.1
    split
    · simp only [setFirm, List.length_set]; omega
    · omega
  · simp

structure DLk (w wr : World) (B q : Nat) (l : Lk) (a b : Value) : Prop where
  box : Bx wr (w.heap.size + 1) 25 #[.int .i64 l.slot, a, b]
  res : Bx wr w.heap.size 25 #[.int .i64 0, .slice none 0 0, .slice none 0 0]
  own : OwnLk wr (w.heap.size + 2) l a b
  rd : Rd wr B q
  grown : w.grownBy wr (some B)
  hn : l.held.length ≤ 40
  hm : l.waits.length ≤ 40

section
variable {w wr w' : World} {B q q' : Nat} {l l' : Lk} {a b a' b' : Value}
theorem DLk.kept (h : DLk w wr B q l a b) (hb : Below wr.heap.size wr w') : DLk w w' B q l a b :=
  ⟨h.box.kept hb, h.res.kept hb, h.own.kept hb, h.rd.kept hb, grownBy_below h.grown hb, h.hn, h.hm⟩
theorem DLk.drewK (h : DLk w wr B q l a b) : DLk w wr.drew B q l a b := h.kept ((Below.refl _ _).drew)
theorem DLk.allocK {o : Obj} (h : DLk w wr B q l a b) : DLk w (wr.alloc o) B q l a b := h.kept ((Below.refl _ _).alloc (Nat.le_refl _) o)
theorem DLk.pick (h : DLk w wr B q l a b) (hB : B < w.heap.size) (hg : wr.grownBy w' (some B)) (hr : Rd w' B q') : DLk w w' B q' l a b :=
  ⟨h.box.far hg (fun e => by simp at e; omega), h.res.far hg (fun e => by simp at e; omega),
   ⟨h.own.held.kept hg (.inr (fun e => by have := (h.own.held.lt _ e).1; omega)), h.own.waits.kept hg (.inr (fun e => by have := (h.own.waits.lt _ e).1; omega)), h.own.ne⟩, hr, grownBy_trans h.grown hg, h.hn, h.hm⟩
theorem DLk.put (h : DLk w wr B q l a b) (hB : B < w.heap.size) (hb : Below wr.heap.size wr w') (ho : OwnLk w' wr.heap.size l' a' b') (hn : l'.held.length ≤ 40) (hm : l'.waits.length ≤ 40) :
    DLk w (((w'.setCell ⟨w.heap.size + 1, 0, none⟩ (.int .i64 l'.slot)).setCell ⟨w.heap.size + 1, 1, none⟩ a').setCell ⟨w.heap.size + 1, 2, none⟩ b') B q l' a' b' := by
  have hl := h.box.lt
  have hg := grown3 w' (w.heap.size + 1) (.int .i64 l'.slot) a' b'
  have hbx : Bx (((w'.setCell ⟨w.heap.size + 1, 0, none⟩ (.int .i64 l'.slot)).setCell ⟨w.heap.size + 1, 1, none⟩ a').setCell ⟨w.heap.size + 1, 2, none⟩ b') (w.heap.size + 1) 25 #[.int .i64 l'.slot, a', b'] :=
    ⟨heap_setCell_same _ _ _ _ _ _ (heap_setCell_same _ _ _ _ _ _ (heap_setCell_same _ _ _ _ _ _ (h.box.kept hb).row))⟩
  refine ⟨hbx, (h.res.kept hb).far hg (fun e => by simp at e), (((ho.low (by omega)).set (by omega) _ _).set (by omega) _ _).set (by omega) _ _, (h.rd.kept hb).far hg (fun y hy e => by simp at e; omega), ?_, hn, hm⟩
  have hgw := grownBy_below h.grown hb
  exact ⟨hg.os.trans hgw.os, hg.tape.trans hgw.tape, hg.output.trans hgw.output, Nat.le_trans hgw.size hg.size, fun k hk hne => (hg.block k (Nat.lt_of_lt_of_le hk hgw.size) (fun e => by simp at e; omega)).trans (hgw.block k hk hne)⟩
end

end Go.Proofs.Ytoojnhodjkpecaa
