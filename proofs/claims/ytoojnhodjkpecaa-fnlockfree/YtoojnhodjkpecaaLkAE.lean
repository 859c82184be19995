/- The end of the drawn regions of FnExactLockAsk: the box made ahead of a call, or behind it. -/
import Derived.Test.YtoojnhodjkpecaaLkM3
import Derived.Test.YtoojnhodjkpecaaLkL
namespace Go.Proofs.Ytoojnhodjkpecaa
open Go.RowKit

theorem belowA {a w : World} {o : Obj} (h : Below a.heap.size a w) : Below a.heap.size a (w.alloc o) := h.alloc h.size o
theorem cell_realloc {w : World} {o o' : Obj} {a : Addr} {v : Value} (h : (w.alloc o).cell? a = some v) (ha : a.block < w.heap.size) : (w.alloc o').cell? a = some v := by
  rw [World.cell?_alloc_lt _ _ _ ha] at h ⊢; exact h
theorem grown3 (w : World) (g : Nat) (u0 u1 u2 : Value) : w.grownBy (((w.setCell ⟨g, 0, none⟩ u0).setCell ⟨g, 1, none⟩ u1).setCell ⟨g, 2, none⟩ u2) (some g) := grownBy_set (grownBy_set (grownBy_set (grownBy_refl w (some g)) 0 u0) 1 u1) 2 u2

def AskCut (w1 : World) (slotF : Int) (HF WF FH : List Hd) (FC : Bool) (p b r : Value) (wz : World) : Prop := ∃ g d0 e0 d1 e1 d2 e2, p = .pointer (some ⟨g, 0, none⟩) ∧ b = .bool FC ∧ r = .slice d2 FH.length e2 ∧ w1.heap.size ≤ g ∧ g < wz.heap.size ∧ Bx wz g 25 #[.int .i64 slotF, .slice d0 HF.length e0, .slice d1 WF.length e1] ∧ OwnX wz w1.heap.size ⟨slotF, HF, WF⟩ (.slice d0 HF.length e0) (.slice d1 WF.length e1) ∧ OwnR wz w1.heap.size FH (.slice d2 FH.length e2) ∧ ((.slice d2 FH.length e2) : Value).ownBlock ≠ some g ∧ ((.slice d0 HF.length e0) : Value).ownBlock ≠ some g ∧ ((.slice d1 WF.length e1) : Value).ownBlock ≠ some g ∧ (((.slice d2 FH.length e2) : Value).ownBlock = none ∨ ((.slice d2 FH.length e2) : Value).ownBlock ≠ ((.slice d0 HF.length e0) : Value).ownBlock) ∧ (((.slice d2 FH.length e2) : Value).ownBlock = none ∨ ((.slice d2 FH.length e2) : Value).ownBlock ≠ ((.slice d1 WF.length e1) : Value).ownBlock) ∧ Below w1.heap.size w1 wz

theorem askEnd {w1 wf : World} {g base : Nat} {slotF : Int} {HF WF FH : List Hd} {FC : Bool} {d0 d1 d2 : Option Addr} {e0 e1 e2 : Nat} {x0 x1 x2 : Value} (hw : w1.heap.size ≤ g) (hg : g < base) (hbx : Bx wf g 25 #[x0, x1, x2])
    (hof : OwnLk wf base ⟨slotF, HF, WF⟩ (.slice d0 HF.length e0) (.slice d1 WF.length e1))
    (hqf : OwnR wf base FH (.slice d2 FH.length e2) ∧ (((.slice d2 FH.length e2) : Value).ownBlock = none ∨ ((.slice d2 FH.length e2) : Value).ownBlock ≠ ((.slice d0 HF.length e0) : Value).ownBlock) ∧ (((.slice d2 FH.length e2) : Value).ownBlock = none ∨ ((.slice d2 FH.length e2) : Value).ownBlock ≠ ((.slice d1 WF.length e1) : Value).ownBlock))
    (hb : Below w1.heap.size w1 wf) :
    AskCut w1 slotF HF WF FH FC (.pointer (some ⟨g, 0, none⟩)) (.bool FC) (.slice d2 FH.length e2) (((wf.setCell ⟨g, 0, none⟩ (.int .i64 slotF)).setCell ⟨g, 1, none⟩ (.slice d0 HF.length e0)).setCell ⟨g, 2, none⟩ (.slice d1 WF.length e1)) := by
  have lo0 := hof.held.lt
  have lo1 := hof.waits.lt
  have lo2 := hqf.1.oa.blk
  have n0 : ((.slice d0 HF.length e0) : Value).ownBlock ≠ some g := fun k => by have := (lo0 _ k).1; omega
  have n1 : ((.slice d1 WF.length e1) : Value).ownBlock ≠ some g := fun k => by have := (lo1 _ k).1; omega
  have n2 : ((.slice d2 FH.length e2) : Value).ownBlock ≠ some g := by
    intro k; rcases lo2 with h | ⟨q, h, h1, h2⟩
    · rw [h] at k; cases k
    · rw [h] at k; simp at k; omega
  have hb3 := ((hbx.setC 0 (.int .i64 slotF)).setC 1 (.slice d0 HF.length e0)).setC 2 (.slice d1 WF.length e1)
  have hx := hof.x.far (grown3 wf g (.int .i64 slotF) (.slice d0 HF.length e0) (.slice d1 WF.length e1)) (.inr n0) (.inr n1)
  have hr := hqf.1.far (grown3 wf g (.int .i64 slotF) (.slice d0 HF.length e0) (.slice d1 WF.length e1)) (.inr n2)
  have hlow : w1.heap.size ≤ base := by omega
  exact ⟨g, d0, e0, d1, e1, d2, e2, rfl, rfl, rfl, hw, hb3.lt, by simpa using hb3, ⟨hx.at', hx.oa.low hlow, hx.ob.low hlow, hx.ne⟩, ⟨hr.at', hr.oa.low hlow⟩, n2, n0, n1, hqf.2.1, hqf.2.2, ((hb.setCell hw _).setCell hw _).setCell hw _⟩

theorem askEndNew {w1 wf : World} {base : Nat} {slotF : Int} {HF WF FH : List Hd} {FC : Bool} {d0 d1 d2 : Option Addr} {e0 e1 e2 : Nat} (hw : w1.heap.size ≤ base)
    (hof : OwnLk wf base ⟨slotF, HF, WF⟩ (.slice d0 HF.length e0) (.slice d1 WF.length e1))
    (hqf : OwnR wf base FH (.slice d2 FH.length e2) ∧ (((.slice d2 FH.length e2) : Value).ownBlock = none ∨ ((.slice d2 FH.length e2) : Value).ownBlock ≠ ((.slice d0 HF.length e0) : Value).ownBlock) ∧ (((.slice d2 FH.length e2) : Value).ownBlock = none ∨ ((.slice d2 FH.length e2) : Value).ownBlock ≠ ((.slice d1 WF.length e1) : Value).ownBlock))
    (hb : Below w1.heap.size w1 wf) :
    AskCut w1 slotF HF WF FH FC (.pointer (some ⟨wf.heap.size, 0, none⟩)) (.bool FC) (.slice d2 FH.length e2) (wf.alloc (.cells #[.int .i64 slotF, .slice d0 HF.length e0, .slice d1 WF.length e1] 25)) := by
  have lo0 := hof.held.lt
  have lo1 := hof.waits.lt
  have lo2 := hqf.1.oa.blk
  have bW : Below wf.heap.size wf (wf.alloc (.cells #[.int .i64 slotF, .slice d0 HF.length e0, .slice d1 WF.length e1] 25)) := (Below.refl _ _).alloc (Nat.le_refl _) _
  have hy := hof.x.kept bW
  have hz := hqf.1.kept bW
  refine ⟨wf.heap.size, d0, e0, d1, e1, d2, e2, rfl, rfl, rfl, hb.size, by simp, Bx.made wf _ _, ⟨hy.at', hy.oa.low hw, hy.ob.low hw, hy.ne⟩, ⟨hz.at', hz.oa.low hw⟩, ?_, fun k => by have := (lo0 _ k).2; omega, fun k => by have := (lo1 _ k).2; omega, hqf.2.1, hqf.2.2, hb.trans (bW.mono hb.size)⟩
  intro k; rcases lo2 with h | ⟨q, h, _, h2⟩
  · rw [h] at k; cases k
  · rw [h] at k; simp at k; omega

/-- A row that is loaded whole, in any world in which it lies. -/
theorem load_yieldsB {ρ : Operand → Value} {o : Oper} {g : Nat} {t : TypeId} {cs : Array Value} {fs : Array Field} {w : World} (ty : TypeId) (x : Operand) (ho : o.op = .load ty x) (hx : ρ x = .pointer (some ⟨g, 0, none⟩))
    (h : Bx w g t cs) (hu : Try.prog.underlying ty = some (.struct fs)) (hi : (Try.prog.info? ty).map (·.size) = some cs.size) : (execOp ρ o).run Try.prog w = .ok (.value (.agg cs)) w := by
  unfold execOp
  simp only [ho, hx, Instr.loadAt, Instr.sureAddr, Sem.run_bind, Sem.run_pure, Result.andThen_ok, run_loadVar_row w g t ty cs (0, 0) _ h.row hu rfl hi]

end Go.Proofs.Ytoojnhodjkpecaa
