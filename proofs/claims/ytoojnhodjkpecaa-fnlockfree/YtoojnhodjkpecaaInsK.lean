/- copy over elements of several cells; rows that are spliced. Nothing of the program's text is named here. -/
import Derived.Test.YtoojnhodjkpecaaRw
import Derived.Test.YtoojnhodjkpecaaResK
import Derived.Laws.CopyRow
import Derived.Laws.CopyOwn
import Derived.Laws.Append
import Derived.Lib.AppendZerosOnto
import Derived.Lib.Overlaps
import Derived.Deep.RegionLaw
namespace Go.Proofs.Ytoojnhodjkpecaa
open Go.RowKit

section
variable {P : Program}

theorem run_copy_rowK (w : World) (dT sT ty elem : TypeId) (g o dLen dCap : Nat) (a : Addr) (sLen sCap k : Nat) (cur : Array Value) (t : TypeId) (cs : List Value)
    (hu : P.underlying dT = some (.slice elem)) (hs : (P.info? elem).map (·.size) = some k)
    (hg : w.heap[g]? = some (.cells cur t (0, 0))) (hn : cs.length = Nat.min sLen dLen * k)
    (hsrc : ∀ j v, cs[j]? = some v → w.cell? (a.add j) = some v) (hfit : o + cs.length ≤ cur.size) (h1 : ∀ v ∈ cs, v.oneCell' = true) :
    (Builtin.copy_ #[dT, sT] ty #[.slice (some ⟨g, o, none⟩) dLen dCap, .slice (some a) sLen sCap]).run P w =
      .ok (goInt (Nat.min sLen dLen)) (w.setRow g (cur.toList.take o ++ cs ++ cur.toList.drop (o + cs.length)).toArray) := by
  have hl := run_loadCells_list (P := P) w a cs hsrc
  have hst := run_storeCells_at P g o t cs 0 cur w hg (by simpa using hfit) h1
  cases hq : P.info? elem with
  | none => simp [hq] at hs
  | some i =>
    have hi : i.size = k := by simpa [hq] using hs
    simp [Builtin.copy_, run_underlying hu, Builtin.lenOf, Builtin.firstCells, sizeOf, typeInfo, hq, hi, ← hn, hl, hst]

theorem wpList_copy_runK (w : World) {ops : Array Oper} {rest : List Oper} {o : Oper} {a : Act} {Q : Exit → Act → World → Prop} (hgd : o.guard = none) (d s : Operand) (t t' : TypeId)
    (ho : o.op = .call { callee := .builtin .copy, args := #[d, s], argTypes := #[t, t'] }) (v u : Value) (hd : a.eval d = v) (hs : a.eval s = u) {v' : Value} {w' : World}
    (hr : (Builtin.copy_ #[t, t'] o.type #[v, u]).run P w = .ok v' w') (h : wpList P ops Q rest (a.put o.dst v') w') : wpList P ops Q (o :: rest) a w :=
  wpList_plain hgd fun K hK => by
    unfold Oper.wp execOp
    simp only [ho, resolve, invoke, builtin, Sem.run_bind, Sem.run_pure, Result.andThen_ok, List.map_toArray, List.map_cons, List.map_nil, hd, hs, hr]
    exact hK _ _ h

theorem step_copy_runK {ops : Array Oper} {o : Oper} {a : Act} {w : World} {K : Act → World → Prop} {Q : Exit → Act → World → Prop} {E : Prop}
    (hg : o.guard = none) (d x : Operand) (dT sT : TypeId) (hop : o.op = Op.call { callee := Callee.builtin Builtin.copy, args := #[d, x], argTypes := #[dT, sT] })
    (v u : Value) (hd : a.eval d = v) (hx : a.eval x = u) {v' : Value} {w' : World} (hr : (Builtin.copy_ #[dT, sT] o.type #[v, u]).run P w = .ok v' w') (hK : K (a.put o.dst v') w') :
    if Region.wanted o (yielded ops a.tmps) = true then Oper.wp P o a w K Q else E := by
  have hw : Region.wanted o (yielded ops a.tmps) = true := by simp [Region.wanted, hg]
  rw [if_pos hw]
  unfold Oper.wp
  simp [execOp, hop, resolve, invoke, builtin, hd, hx, hr, Result.andThen]
  exact hK

theorem grownBy_setRow (w : World) (g : Nat) (cs : Array Value) : w.grownBy (w.setRow g cs) (some g) :=
  ⟨rfl, rfl, rfl, by simp [World.setRow], fun k _ hne => setRow_other w g k cs (fun e => hne (by rw [e]))⟩
end

/-- Put at a place. -/
def insAt {α : Type} (hs : List α) (i : Nat) (x : α) : List α := hs.take i ++ x :: hs.drop i

theorem flat_take {α : Type} {enc : α → List Value} {k : Nat} (he : ∀ x, (enc x).length = k) (hs : List α) (i : Nat) : (hs.take i).flatMap enc = (hs.flatMap enc).take (i * k) := by
  induction hs generalizing i with
  | nil => simp
  | cons x r ih =>
    cases i with
    | zero => simp
    | succ i =>
      rw [List.take_succ_cons, List.flatMap_cons, List.flatMap_cons, ih, show (i + 1) * k = (enc x).length + i * k from by rw [he, Nat.succ_mul]; omega, List.take_length_add_append]
theorem flat_drop {α : Type} {enc : α → List Value} {k : Nat} (he : ∀ x, (enc x).length = k) (hs : List α) (i : Nat) : (hs.drop i).flatMap enc = (hs.flatMap enc).drop (i * k) := by
  induction hs generalizing i with
  | nil => simp
  | cons x r ih =>
    cases i with
    | zero => simp
    | succ i =>
      rw [List.drop_succ_cons, List.flatMap_cons, ih, show (i + 1) * k = (enc x).length + i * k from by rw [he, Nat.succ_mul]; omega, List.drop_length_add_append]
theorem flat_ins {α : Type} {enc : α → List Value} {k : Nat} (he : ∀ x, (enc x).length = k) (hs : List α) (i : Nat) (x : α) : (insAt hs i x).flatMap enc = (hs.flatMap enc).take (i * k) ++ (enc x ++ (hs.flatMap enc).drop (i * k)) := by
  unfold insAt
  rw [List.flatMap_append, List.flatMap_cons, flat_take he, flat_drop he]

/-- A row's cells behind two copies: the tail is shifted by v, then v is laid. -/
theorem splice_ins (cur cs vs : List Value) (p m : Nat) (hm : vs.length = m) (hp : p ≤ cs.length) (hc : cur.take cs.length = cs) (hl : cs.length + m ≤ cur.length) :
    let mid := cur.take (p + m) ++ cs.drop p ++ cur.drop (p + m + (cs.drop p).length)
    (mid.take p ++ vs ++ mid.drop (p + vs.length)).take (cs.length + m) = cs.take p ++ (vs ++ cs.drop p) ∧ (mid.take p ++ vs ++ mid.drop (p + vs.length)).length = cur.length ∧ mid.length = cur.length := by
  intro mid
  have e1 : (cs.drop p).length = cs.length - p := by simp
  have e2 : mid.length = cur.length := by simp [mid]; omega
  have e3 : mid.take p = cs.take p := by
    have : mid.take p = cur.take p := by
      simp only [mid]
      rw [List.append_assoc, List.take_append_of_le_length (by simp; omega), List.take_take]; congr 1; omega
    rw [this]; conv => rhs; rw [← hc, List.take_take]
    congr 1; omega
  have e4 : mid.drop (p + m) = cs.drop p ++ cur.drop (p + m + (cs.drop p).length) := by
    simp only [mid]
    rw [List.append_assoc, List.drop_append_of_le_length (by simp; omega), List.drop_eq_nil_of_le (by simp; omega)]; rfl
  refine ⟨?_, ?_, e2⟩
  · rw [hm, e3, e4, List.append_assoc]
    have : cs.length + m = (cs.take p ++ (vs ++ cs.drop p)).length := by simp; omega
    rw [show cs.take p ++ (vs ++ (cs.drop p ++ cur.drop (p + m + (cs.drop p).length))) = (cs.take p ++ (vs ++ cs.drop p)) ++ cur.drop (p + m + (cs.drop p).length) from by simp, this, List.take_left']
    rfl
  · rw [e3]; simp; omega

end Go.Proofs.Ytoojnhodjkpecaa
