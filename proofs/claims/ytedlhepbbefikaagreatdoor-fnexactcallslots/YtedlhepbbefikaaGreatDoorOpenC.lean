/- How a call that comes in as an argument is opened. -/
import Derived.Test.YtedlhepbbefikaaGreatDoorCaK
import Derived.Test.YtedlhepbbefikaaGreatDoorOpen
import Derived.Lib.SmallJoins
namespace Go.Proofs.YtedlhepbbefikaaGreatDoor
open Go.ChangeShapes Go.WideShapes Go.ChangeAt Go.RowKit Go.Deep Go.Joins

section
variable {H : Type} {enc : TypeId × Value → H} {P : Program} {w : World} {base : Nat} {spare : Nat → Bool} {held : Bool}

theorem array6 {cs : Array Value} (h : cs.size = 6) : ∃ v0 v1 v2 v3 v4 v5, cs = #[v0, v1, v2, v3, v4, v5] := by
  obtain ⟨l⟩ := cs
  match l, h with
  | [v0, v1, v2, v3, v4, v5], _ => exact ⟨v0, v1, v2, v3, v4, v5, rfl⟩

theorem open_callCells {t ti ts : TypeId} {k0 k1 k2 k3 k4 k5 : Field} {fuel : Nat} {x : DataW H × List MemPlace} {c0 c1 c2 c3 c4 c5 : Value}
    (hs : P.underlying t = some (.struct #[k0, k1, k2, k3, k4, k5]))
    (ho : [k0.offset, k1.offset, k2.offset, k3.offset, k4.offset, k5.offset] = [0, 1, 2, 3, 4, 5]) (ht : [k0.type, k1.type, k2.type, k3.type, k4.type, k5.type] = [ti, ti, ti, ts, ti, ti])
    (hi : P.underlying ti = some (.int .i64)) (ci : P.cellsOf ti = 1) (hst : P.underlying ts = some .string) (cst : P.cellsOf ts = 1)
    (h : DataW.trod enc P w base spare held fuel t [c0, c1, c2, c3, c4, c5] = some x) :
    ∃ (z0 z1 z2 : Int) (s : ByteArray) (z4 z5 : Int), c0 = .int .i64 z0 ∧ c1 = .int .i64 z1 ∧ c2 = .int .i64 z2 ∧ c3 = .string s ∧ c4 = .int .i64 z4 ∧ c5 = .int .i64 z5 ∧ s.size ≤ maxLen := by
  obtain ⟨xs, n, _, _, _, hlen, hx⟩ := DataW.trod_struct hs h
  simp only [List.cons.injEq, and_true] at ho ht
  obtain ⟨o0, o1, o2, o3, o4, o5⟩ := ho
  obtain ⟨t0, t1, t2, t3, t4, t5⟩ := ht
  match xs, hlen with
  | [y0, y1, y2, y3, y4, y5], _ =>
    have g0 := hx 0 k0 rfl
    have g1 := hx 1 k1 rfl
    have g2 := hx 2 k2 rfl
    have g3 := hx 3 k3 rfl
    have g4 := hx 4 k4 rfl
    have g5 := hx 5 k5 rfl
    rw [o0, t0, ci] at g0
    rw [o1, t1, ci] at g1
    rw [o2, t2, ci] at g2
    rw [o3, t3, cst] at g3
    rw [o4, t4, ci] at g4
    rw [o5, t5, ci] at g5
    simp only [List.getElem?_cons_zero, List.getElem?_cons_succ, List.drop_succ_cons, List.drop_zero, List.take_succ_cons, List.take_zero] at g0 g1 g2 g3 g4 g5
    obtain ⟨z0, e0, _, _⟩ := DataW.trod_int hi g0
    obtain ⟨z1, e1, _, _⟩ := DataW.trod_int hi g1
    obtain ⟨z2, e2, _, _⟩ := DataW.trod_int hi g2
    obtain ⟨z4, e4, _, _⟩ := DataW.trod_int hi g4
    obtain ⟨z5, e5, _, _⟩ := DataW.trod_int hi g5
    obtain ⟨s, e3, _, hs3⟩ := DataW.trod_string hst g3
    simp only [List.cons.injEq, and_true] at e0 e1 e2 e3 e4 e5
    exact ⟨z0, z1, z2, s, z4, z5, e0, e1, e2, e3, e4, e5, hs3⟩

theorem open_callArg {r : Reach} {b0 : Nat} {t ti ts : TypeId} {k0 k1 k2 k3 k4 k5 : Field} {v : Value} {d : DataW H} {p : List MemPlace}
    (hs : P.underlying t = some (.struct #[k0, k1, k2, k3, k4, k5])) (hC : P.cellsOf t = 6)
    (ho : [k0.offset, k1.offset, k2.offset, k3.offset, k4.offset, k5.offset] = [0, 1, 2, 3, 4, 5]) (ht : [k0.type, k1.type, k2.type, k3.type, k4.type, k5.type] = [ti, ti, ti, ts, ti, ti])
    (hi : P.underlying ti = some (.int .i64)) (ci : P.cellsOf ti = 1) (hst : P.underlying ts = some .string) (cst : P.cellsOf ts = 1)
    (hv : Value.okWide P w r b0 t v) (h : DataW.Trod enc P w base spare held t v d p) :
    ∃ c : Cl, v = .agg (clC c) ∧ c.text.length ≤ maxLen := by
  obtain ⟨vs, rfl, hsz⟩ := okWide_struct hs hv
  obtain ⟨v0, v1, v2, v3, v4, v5, rfl⟩ := array6 (hsz.trans hC)
  obtain ⟨fuel, hf⟩ := h
  obtain ⟨z0, z1, z2, s, z4, z5, rfl, rfl, rfl, rfl, rfl, rfl, hs3⟩ := open_callCells hs ho ht hi ci hst cst hf
  exact ⟨⟨z0, z1, z2, s.data.toList, z4, z5⟩, by simp only [clC], by simpa using hs3⟩

end
end Go.Proofs.YtedlhepbbefikaaGreatDoor
