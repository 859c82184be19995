/- How a word that comes in as an argument is opened. -/
import Derived.Test.YtfankbnlgmfdjaaWd
import Derived.Test.YtfankbnlgmfdjaaOpenK
namespace Go.Proofs.Ytfankbnlgmfdjaa
open Go.ChangeShapes Go.WideShapes Go.ChangeAt Go.RowKit Go.Deep Go.Joins

section
variable {H : Type} {enc : TypeId × Value → H} {P : Program} {w : World} {base : Nat} {spare : Nat → Bool} {held : Bool}

theorem array17 {cs : Array Value} (h : cs.size = 17) : ∃ v0 v1 v2 v3 v4 v5 v6 v7 v8 v9 v10 v11 v12 v13 v14 v15 v16, cs = #[v0, v1, v2, v3, v4, v5, v6, v7, v8, v9, v10, v11, v12, v13, v14, v15, v16] := by
  obtain ⟨l⟩ := cs
  match l, h with
  | [v0, v1, v2, v3, v4, v5, v6, v7, v8, v9, v10, v11, v12, v13, v14, v15, v16], _ => exact ⟨v0, v1, v2, v3, v4, v5, v6, v7, v8, v9, v10, v11, v12, v13, v14, v15, v16, rfl⟩

theorem open_callCells {t ti ts : TypeId} {k0 k1 k2 k3 k4 k5 : Field} {fuel : Nat} {x : DataW H × List MemPlace} {c0 c1 c2 c3 c4 c5 : Value}
    (hs : P.underlying t = some (.struct #[k0, k1, k2, k3, k4, k5]))
    (ho : [k0.offset, k1.offset, k2.offset, k3.offset, k4.offset, k5.offset] = [0, 1, 2, 3, 4, 5]) (ht : [k0.type, k1.type, k2.type, k3.type, k4.type, k5.type] = [ti, ti, ti, ts, ti, ti])
    (hi : P.underlying ti = some (.int .i64)) (ci : P.cellsOf ti = 1) (hst : P.underlying ts = some .string) (cst : P.cellsOf ts = 1)
    (h : DataW.trod enc P w base spare held fuel t [c0, c1, c2, c3, c4, c5] = some x) :
    ∃ (z0 z1 z2 : Int) (s : ByteArray) (z4 z5 : Int), c0 = .int .i64 z0 ∧ c1 = .int .i64 z1 ∧ c2 = .int .i64 z2 ∧ c3 = .string s ∧ c4 = .int .i64 z4 ∧ c5 = .int .i64 z5 ∧ s.size ≤ maxLen := by
  obtain ⟨xs, n, _, _, _, hlen, hx⟩ := DataW.trod_struct hs h
  simp only [List.cons.injEq, and_true] at ho ht
  obtain ⟨o0, o1, o2, o3, o4, o5⟩ := ho
  obtain ⟨t0, t1, t2, t3, t4, t5⟩ := ht
  match xs, hlen with
  | [y0, y1, y2, y3, y4, y5], _ =>
    have g0 := hx 0 k0 rfl
    have g1 := hx 1 k1 rfl
    have g2 := hx 2 k2 rfl
    have g3 := hx 3 k3 rfl
    have g4 := hx 4 k4 rfl
    have g5 := hx 5 k5 rfl
    rw [o0, t0, ci] at g0
    rw [o1, t1, ci] at g1
    rw [o2, t2, ci] at g2
    rw [o3, t3, cst] at g3
    rw [o4, t4, ci] at g4
    rw [o5, t5, ci] at g5
    simp only [List.getElem?_cons_zero, List.getElem?_cons_succ, List.drop_succ_cons, List.drop_zero, List.take_succ_cons, List.take_zero] at g0 g1 g2 g3 g4 g5
    obtain ⟨z0, e0, _, _⟩ := DataW.trod_int hi g0
    obtain ⟨z1, e1, _, _⟩ := DataW.trod_int hi g1
    obtain ⟨z2, e2, _, _⟩ := DataW.trod_int hi g2
    obtain ⟨z4, e4, _, _⟩ := DataW.trod_int hi g4
    obtain ⟨z5, e5, _, _⟩ := DataW.trod_int hi g5
    obtain ⟨s, e3, _, hs3⟩ := DataW.trod_string hst g3
    simp only [List.cons.injEq, and_true] at e0 e1 e2 e3 e4 e5
    exact ⟨z0, z1, z2, s, z4, z5, e0, e1, e2, e3, e4, e5, hs3⟩

theorem open_wordArg {r : Reach} {b0 : Nat} {t ti tb tl tp tpe tc ts : TypeId} {f0 f1 f2 f3 f4 f5 f6 f7 f8 f9 f10 f11 k0 k1 k2 k3 k4 k5 p0 p1 : Field} {v : Value} {d : DataW H} {p : List MemPlace}
    (hs : P.underlying t = some (.struct #[f0, f1, f2, f3, f4, f5, f6, f7, f8, f9, f10, f11])) (hC : P.cellsOf t = 17)
    (ho : [f0.offset, f1.offset, f2.offset, f3.offset, f4.offset, f5.offset, f6.offset, f7.offset, f8.offset, f9.offset, f10.offset, f11.offset] = [0, 1, 2, 3, 4, 5, 6, 7, 8, 9, 10, 11]) (ht : [f0.type, f1.type, f2.type, f3.type, f4.type, f5.type, f6.type, f7.type, f8.type, f9.type, f10.type, f11.type] = [ti, ti, ti, ti, ti, ti, tb, tl, tp, ti, tl, tc])
    (hi : P.underlying ti = some (.int .i64)) (ci : P.cellsOf ti = 1) (hb : P.underlying tb = some .bool) (cb : P.cellsOf tb = 1) (hl : P.underlying tl = some (.slice ti)) (cl : P.cellsOf tl = 1)
    (hp : P.underlying tp = some (.slice tpe)) (cp : P.cellsOf tp = 1) (hpe : P.underlying tpe = some (.struct #[p0, p1])) (cpe : P.cellsOf tpe = 2) (po0 : p0.offset = 0) (po1 : p1.offset = 1) (pt0 : p0.type = ti) (pt1 : p1.type = ti)
    (hc : P.underlying tc = some (.struct #[k0, k1, k2, k3, k4, k5])) (cc : P.cellsOf tc = 6)
    (ko : [k0.offset, k1.offset, k2.offset, k3.offset, k4.offset, k5.offset] = [0, 1, 2, 3, 4, 5]) (kt : [k0.type, k1.type, k2.type, k3.type, k4.type, k5.type] = [ti, ti, ti, ts, ti, ti])
    (hst : P.underlying ts = some .string) (cst : P.cellsOf ts = 1)
    (hv : Value.okWide P w r b0 t v) (h : DataW.Trod enc P w base spare held t v d p) :
    ∃ (W : Wd) (a b c : Value), v = wdV W a b c ∧ WdAt w W a b c := by
  obtain ⟨vs, rfl, hsz⟩ := okWide_struct hs hv
  obtain ⟨v0, v1, v2, v3, v4, v5, v6, v7, v8, v9, v10, v11, v12, v13, v14, v15, v16, rfl⟩ := array17 (hsz.trans hC)
  obtain ⟨fuel, hf⟩ := h
  obtain ⟨xs, n, _, _, _, hlen, hx⟩ := DataW.trod_struct hs hf
  simp only [List.cons.injEq, and_true] at ho ht
  obtain ⟨o0, o1, o2, o3, o4, o5, o6, o7, o8, o9, o10, o11⟩ := ho
  obtain ⟨t0, t1, t2, t3, t4, t5, t6, t7, t8, t9, t10, t11⟩ := ht
  match xs, hlen with
  | [y0, y1, y2, y3, y4, y5, y6, y7, y8, y9, y10, y11], _ =>
    have g0 := hx 0 f0 rfl
    have g1 := hx 1 f1 rfl
    have g2 := hx 2 f2 rfl
    have g3 := hx 3 f3 rfl
    have g4 := hx 4 f4 rfl
    have g5 := hx 5 f5 rfl
    have g6 := hx 6 f6 rfl
    have g7 := hx 7 f7 rfl
    have g8 := hx 8 f8 rfl
    have g9 := hx 9 f9 rfl
    have g10 := hx 10 f10 rfl
    have g11 := hx 11 f11 rfl
    rw [o0, t0, ci] at g0
    rw [o1, t1, ci] at g1
    rw [o2, t2, ci] at g2
    rw [o3, t3, ci] at g3
    rw [o4, t4, ci] at g4
    rw [o5, t5, ci] at g5
    rw [o6, t6, cb] at g6
    rw [o7, t7, cl] at g7
    rw [o8, t8, cp] at g8
    rw [o9, t9, ci] at g9
    rw [o10, t10, cl] at g10
    rw [o11, t11, cc] at g11
    simp only [Value.cells, List.getElem?_cons_zero, List.getElem?_cons_succ, List.drop_succ_cons, List.drop_zero, List.take_succ_cons, List.take_zero] at g0 g1 g2 g3 g4 g5 g6 g7 g8 g9 g10 g11
    obtain ⟨z0, e0, _, _⟩ := DataW.trod_int hi g0
    obtain ⟨z1, e1, _, _⟩ := DataW.trod_int hi g1
    obtain ⟨z2, e2, _, _⟩ := DataW.trod_int hi g2
    obtain ⟨z3, e3, _, _⟩ := DataW.trod_int hi g3
    obtain ⟨z4, e4, _, _⟩ := DataW.trod_int hi g4
    obtain ⟨z5, e5, _, _⟩ := DataW.trod_int hi g5
    obtain ⟨z9, e9, _, _⟩ := DataW.trod_int hi g9
    obtain ⟨z6, e6, _⟩ := DataW.trod_bool hb g6
    simp only [List.cons.injEq, and_true] at e0 e1 e2 e3 e4 e5 e6 e9
    obtain ⟨S, hS⟩ := open_ins hl hi ci g7
    obtain ⟨pa, pl, pc, hpv⟩ := slice_form hp g8
    simp only [List.cons.injEq, and_true] at hpv
    subst hpv
    obtain ⟨ps, hps⟩ := open_prs hp hpe cpe po0 po1 pt0 pt1 hi ci g8
    obtain ⟨V, hV⟩ := open_ins hl hi ci g10
    obtain ⟨s0, s1, s2, s, s4, s5, q0, q1, q2, q3, q4, q5, hs3⟩ := open_callCells hc ko kt hi ci hst cst g11
    subst e0 e1 e2 e3 e4 e5 e6 e9 q0 q1 q2 q3 q4 q5
    exact ⟨⟨z0, z1, z2, z3, z4, z5, z6, S, ps, z9, V, s0, s1, s2, s, s4, s5⟩, _, _, _, rfl, hS, hps, hV, hs3⟩

end
end Go.Proofs.Ytfankbnlgmfdjaa
