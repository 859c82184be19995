/- How a lock and who asks for it are drawn: what holds between the steps. -/
import Derived.Test.YtoojnhodjkpecaaDrL3
namespace Go.Proofs.Ytoojnhodjkpecaa
open Go.RowKit

theorem results_row_row {P : Program} {fn : Func} {p p' : Tmp} {ty ty' : TypeId} {fs fs' : Array Field} (h : fn.results = #[.cell p ty, .cell p' ty']) (tmps : Array Value) (w : World) (g g' : Nat) (t t' : TypeId) (cs cs' : Array Value)
    (hp : tmps.getD p undef = .pointer (some ⟨g, 0, none⟩)) (hp' : tmps.getD p' undef = .pointer (some ⟨g', 0, none⟩)) (hg : w.heap[g]? = some (.cells cs t (0, 0))) (hg' : w.heap[g']? = some (.cells cs' t' (0, 0)))
    (hu : P.underlying ty = some (.struct fs)) (hi : (P.info? ty).map (·.size) = some cs.size) (hu' : P.underlying ty' = some (.struct fs')) (hi' : (P.info? ty').map (·.size) = some cs'.size) :
    (results fn tmps).run P w = .ok (.tuple #[.agg cs, .agg cs']) w := by
  have h1 : tmps[p]?.getD undef = .pointer (some ⟨g, 0, none⟩) := by simpa using hp
  have h2 : tmps[p']?.getD undef = .pointer (some ⟨g', 0, none⟩) := by simpa using hp'
  simp [results, h, h1, h2, asAddr, run_loadVar_row w g t ty cs (0, 0) _ hg hu rfl hi, run_loadVar_row w g' t' ty' cs' (0, 0) _ hg' hu' rfl hi']

structure ALk (w wr : World) (q G : Nat) (l : Lk) (a b : Value) : Prop where
  resL : Bx wr w.heap.size 25 #[.int .i64 0, .slice none 0 0, .slice none 0 0]
  resH : Bx wr (w.heap.size + 1) 27 #[.int .i64 0, .int .i64 0, .bool false, .bool false]
  box : Bx wr G 25 #[.int .i64 l.slot, a, b]
  lk : LkAt wr l a b
  ga : ∀ k, a.ownBlock = some k → w.heap.size + 2 < k
  gb : ∀ k, b.ownBlock = some k → w.heap.size + 2 < k
  gl : w.heap.size + 2 < G
  rd : Rd wr (w.heap.size + 2) q
  bel : Below w.heap.size w wr
  hn : l.held.length ≤ 100
  hm : l.waits.length ≤ 100

section
variable {w wr w' : World} {q q' G : Nat} {l : Lk} {a b : Value}
theorem ALk.kept (h : ALk w wr q G l a b) (hb : Below wr.heap.size wr w') : ALk w w' q G l a b :=
  ⟨h.resL.kept hb, h.resH.kept hb, h.box.kept hb, h.lk.kept hb, h.ga, h.gb, h.gl, h.rd.kept hb, h.bel.trans (hb.mono h.bel.size), h.hn, h.hm⟩
theorem ALk.allocK {o : Obj} (h : ALk w wr q G l a b) : ALk w (wr.alloc o) q G l a b := h.kept ((Below.refl _ _).alloc (Nat.le_refl _) o)
theorem ALk.drewK (h : ALk w wr q G l a b) : ALk w wr.drew q G l a b := h.kept ((Below.refl _ _).drew)
theorem ALk.pick (h : ALk w wr q G l a b) (hg : wr.grownBy w' (some (w.heap.size + 2))) (hr : Rd w' (w.heap.size + 2) q') : ALk w w' q' G l a b :=
  ⟨h.resL.far hg (fun e => by simp at e), h.resH.far hg (fun e => by simp at e), h.box.far hg (fun e => by have := h.gl; simp at e; omega),
   ⟨h.lk.held.far hg (.inr (fun e => by have := h.ga _ e; omega)), h.lk.waits.far hg (.inr (fun e => by have := h.gb _ e; omega))⟩, h.ga, h.gb, h.gl, hr, Below.grown h.bel hg h.bel.size (fun k e => by simp at e; omega), h.hn, h.hm⟩
end

end Go.Proofs.Ytoojnhodjkpecaa
