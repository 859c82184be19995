/- Pairs put into pairs: the program's answer. -/
import Derived.Test.YtmikdkdgpomiaaaDoorPut
namespace Go.Proofs.YtmikdkdgpomiaaaDoor
open Go.RowKit
attribute [local go_sem ↓] Go.wp_at_zero Go.wp_at_succ

/-- Block B holds 32 numbers, and may be written. -/
def Arr (w : World) (B : Nat) (f : Nat → Int) : Prop := ∀ q, q < 32 → w.cell? ⟨B, q, none⟩ = some (.int .i64 (f q)) ∧ w.frozen? ⟨B, q, none⟩ = false

theorem Arr.far {w w' : World} {B : Nat} {f : Nat → Int} {row : Option Nat} (h : Arr w B f) (hg : w.grownBy w' row) (hne : some B ≠ row) : Arr w' B f := fun q hq =>
  ⟨cell_far hg hne (h q hq).1, by rw [hg.frozen_far ⟨B, q, none⟩ (lt_of_cell (h q hq).1) hne]; exact (h q hq).2⟩

theorem Arr.alloc {w : World} {B : Nat} {f : Nat → Int} (h : Arr w B f) (o : Obj) : Arr (w.alloc o) B f := h.far (World.grownBy_alloc w o none) (by simp)

theorem Arr.drew {w : World} {B : Nat} {f : Nat → Int} (h : Arr w B f) : Arr w.drew B f := h

theorem Arr.set {w : World} {B : Nat} {f g : Nat → Int} (h : Arr w B f) {q : Nat} {n : Int} (hq : q < 32) (hg : ∀ r, r < 32 → g r = if r = q then n else f r) : Arr (w.setCell ⟨B, q, none⟩ (.int .i64 n)) B g := fun r hr => by
  refine ⟨?_, by rw [World.frozen?_setCell]; exact (h r hr).2⟩
  rw [hg r hr]
  by_cases e : r = q
  · subst e; rw [if_pos rfl]; exact World.cell?_setCell_same _ _ _ (h r hr).1
  · rw [if_neg e, cell_set_far (.inr (fun h => e h.symm))]; exact (h r hr).1

/-- What lies behind the 32 numbers of block B is as it was. -/
def Rest (w w' : World) (B : Nat) : Prop := ∀ q, 32 ≤ q → w'.cell? ⟨B, q, none⟩ = w.cell? ⟨B, q, none⟩ ∧ w'.frozen? ⟨B, q, none⟩ = w.frozen? ⟨B, q, none⟩

theorem Rest.step {w wr : World} {B q : Nat} {u : Value} {o : Obj} (h : Rest w wr B) (hq : q < 32) (hB : B < wr.heap.size) : Rest w ((wr.setCell ⟨B, q, none⟩ u).alloc o).drew B := fun r hr => by
  have hB' : B < (wr.setCell ⟨B, q, none⟩ u).heap.size := by simpa [World.setCell] using hB
  refine ⟨?_, ?_⟩
  · show ((wr.setCell ⟨B, q, none⟩ u).alloc o).cell? ⟨B, r, none⟩ = _
    rw [World.cell?_alloc_past o B r hB', cell_set_far (by omega)]; exact (h r hr).1
  · show ((wr.setCell ⟨B, q, none⟩ u).alloc o).frozen? ⟨B, r, none⟩ = _
    rw [World.frozen?_alloc_past o B r hB', World.frozen?_setCell]; exact (h r hr).2

theorem inForm_at {ps : List Pr} (h : inForm ps = true) {i : Nat} (hi : i < ps.length) : prAt ps i = true := by
  simp only [inForm, Bool.and_eq_true] at h
  exact List.all_eq_true.1 h.2 i (List.mem_range.2 hi)

theorem inForm_key {ps : List Pr} (h : inForm ps = true) {i : Nat} (hi : i < ps.length) : 0 ≤ (ps.getD i Pr.z).key ∧ (ps.getD i Pr.z).key ≤ 31 := by
  have := inForm_at h hi
  simp only [prAt, Bool.and_eq_true, inB, decide_eq_true_eq] at this
  exact this.1.1

theorem inForm_len {ps : List Pr} (h : inForm ps = true) : ps.length ≤ 32 := by
  simp only [inForm, Bool.and_eq_true, decide_eq_true_eq] at h
  exact h.1

theorem run_index_arr {P : Program} (t e : TypeId) (n : Nat) (i : TypeInfo) (d : TypeDesc) (cs : Array Value) (k : IntKind) (q : Nat) (v : Value) (w : World) (ht : P.underlying t = some (.array n e)) (hi : P.info? e = some i) (hs : i.size = 1)
    (hd : P.underlying e = some d) (hr : d.isRow = false) (hq : q < n) (hv : cs[q]? = some v) :
    (Instr.index t (.agg cs) (.int k (q : Int))).run P w = .ok v w := by
  have h1 : (0 : Int) ≤ (q : Int) ∧ (q : Int) < (n : Int) := by omega
  cases d <;> simp [TypeDesc.isRow] at hr
  all_goals simp [Instr.index, run_underlying ht, run_underlying hd, asIntOf, typeInfo, hi, sizeOf, part, isAgg, hs, hv, hq]

theorem Tryd.infoInt : (Tryd.prog.info? 3).map (fun i => (i.zero, i.size, i.bytes)) = some (some (.int .i64 0), 1, 8) := by kernel_rfl

theorem inForm_up {ps : List Pr} (h : inForm ps = true) : ∀ j i, i < j → j < ps.length → (ps.getD i Pr.z).key < (ps.getD j Pr.z).key := by
  intro j
  induction j with
  | zero => intro i hi; omega
  | succ j ih =>
    intro i hi hj
    have h1 := inForm_at h hj
    have h2 : (ps.getD j Pr.z).key < (ps.getD (j + 1) Pr.z).key := by
      simp only [prAt, Bool.and_eq_true, Nat.add_sub_cancel] at h1
      have := h1.2
      simp at this
      simpa using this
    rcases Nat.lt_or_ge i j with hlt | hge
    · have := ih i hlt (by omega); omega
    · obtain rfl : i = j := by omega
      exact h2

theorem inForm_pairwise {ps : List Pr} (h : inForm ps = true) : ps.Pairwise (fun p q => p.key < q.key) := by
  rw [List.pairwise_iff_getElem]
  intro i j hi hj hij
  have := inForm_up h j i hij hj
  simpa [List.getD, hi, hj] using this

theorem lastP_none {ps : List Pr} {n k : Int} (h : ∀ q ∈ ps, ¬ q.key = k) : lastP n ps k = n := by
  induction ps generalizing n with
  | nil => rfl
  | cons p r ih =>
    have h1 : ¬ p.key = k := h p (by simp)
    have : lastP n (p :: r) k = lastP (if p.key = k then p.val else n) r k := rfl
    rw [this, if_neg h1]
    exact ih (fun q hq => h q (by simp [hq]))

theorem lastP_getP {ps : List Pr} {k : Int} (h : ps.Pairwise (fun p q => p.key < q.key)) : lastP 0 ps k = getP ps k := by
  induction ps with
  | nil => rfl
  | cons p r ih =>
    have e : lastP 0 (p :: r) k = lastP (if p.key = k then p.val else 0) r k := rfl
    obtain ⟨h1, h2⟩ := List.pairwise_cons.1 h
    rw [e]
    by_cases hk : p.key = k
    · rw [if_pos hk, lastP_none (fun q hq => by have := h1 q hq; omega)]; simp [getP, hk]
    · rw [if_neg hk, ih h2]; simp [getP, hk]

theorem Arr.fresh (w : World) (e : Nat) : Arr (w.alloc (.cells (Array.replicate 32 (.int .i64 0)) e)) w.heap.size (fun _ => 0) := fun q hq =>
  ⟨by rw [World.cell?_alloc_at _ _ _ _ rfl]; simp [hq], World.frozen?_alloc_at _ _ _ _ rfl⟩

end Go.Proofs.YtmikdkdgpomiaaaDoor
