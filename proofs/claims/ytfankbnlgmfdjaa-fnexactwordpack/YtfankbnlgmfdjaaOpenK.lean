/- How books that come in as an argument are opened. -/
import Derived.Test.YtfankbnlgmfdjaaSdB
import Derived.Test.YtfankbnlgmfdjaaOpenM
import Derived.Test.YtfankbnlgmfdjaaOpen
namespace Go.Proofs.Ytfankbnlgmfdjaa
open Go.ChangeShapes Go.WideShapes Go.ChangeAt Go.RowKit Go.Deep Go.Joins

section
variable {H : Type} {enc : TypeId × Value → H} {P : Program} {w : World} {base : Nat} {spare : Nat → Bool} {held : Bool}

theorem array5 {cs : Array Value} (h : cs.size = 5) : ∃ a b c d e, cs = #[a, b, c, d, e] := by
  obtain ⟨l⟩ := cs
  match l, h with
  | [a, b, c, d, e], _ => exact ⟨a, b, c, d, e, rfl⟩

theorem open_sds {t e ti tl : TypeId} {f0 f1 f2 f3 : Field} {fuel : Nat} {a : Option Addr} {len cap : Nat} {x : DataW H × List MemPlace}
    (ht : P.underlying t = some (.slice e)) (he : P.underlying e = some (.struct #[f0, f1, f2, f3])) (ce : P.cellsOf e = 4)
    (o0 : f0.offset = 0) (o1 : f1.offset = 1) (o2 : f2.offset = 2) (o3 : f3.offset = 3) (t0 : f0.type = ti) (t1 : f1.type = ti) (t2 : f2.type = ti) (t3 : f3.type = tl)
    (hi : P.underlying ti = some (.int .i64)) (ci : P.cellsOf ti = 1) (hl : P.underlying tl = some (.slice ti)) (cl : P.cellsOf tl = 1)
    (h : DataW.trod enc P w base spare held fuel t [.slice a len cap] = some x) : ∃ ss, SdsAt w (.slice a len cap) ss := by
  rcases open_slice ht h with ⟨h0, _⟩ | ⟨ad, l, c, m, n, D, Pl, h0, hb, hl', hm, hmm, _, hx⟩
  · simp at h0
    obtain ⟨rfl, rfl, rfl⟩ := h0
    exact ⟨[], none, 0, rfl, by simp, by simp [maxLen], .inl rfl⟩
  · simp at h0
    obtain ⟨rfl, rfl, rfl⟩ := h0
    have hlm : len ≤ m := by rw [hmm]; split <;> omega
    have each : ∀ i, i < len → ∃ s : Sd, w.cell? (ad.add (i * 4)) = some (.int .i64 s.ses) ∧ w.cell? (ad.add (i * 4 + 1)) = some (.int .i64 s.num) ∧ w.cell? (ad.add (i * 4 + 2)) = some (.int .i64 s.code) ∧ ∃ u, w.cell? (ad.add (i * 4 + 3)) = some u ∧ InsAt w u s.vals := fun i hi' => by
      obtain ⟨cs, hcs, htr⟩ := hx i (by omega)
      rw [ce] at hcs
      obtain ⟨_, hlen, hcell⟩ := World.cells?_some hcs
      obtain ⟨y0, y1, y2, y3, n', _, _, g0, g1, g2, g3⟩ := trod_struct4 he htr
      match cs, hlen with
      | [u0, u1, u2, u3], _ =>
        rw [o0, t0, ci] at g0; rw [o1, t1, ci] at g1; rw [o2, t2, ci] at g2; rw [o3, t3, cl] at g3
        obtain ⟨z0, e0, _, _⟩ := DataW.trod_int hi g0
        obtain ⟨z1, e1, _, _⟩ := DataW.trod_int hi g1
        obtain ⟨z2, e2, _, _⟩ := DataW.trod_int hi g2
        simp at e0 e1 e2
        subst e0 e1 e2
        obtain ⟨xs, hxs⟩ := open_ins (v := u3) hl hi ci (by simpa using g3)
        refine ⟨⟨z0, z1, z2, xs⟩, ?_, ?_, ?_, u3, ?_, hxs⟩
        · have := hcell 0 (by omega); rw [Addr.add_add] at this; simpa using this
        · have := hcell 1 (by omega); rw [Addr.add_add] at this; simpa using this
        · have := hcell 2 (by omega); rw [Addr.add_add] at this; simpa using this
        · have := hcell 3 (by omega); rw [Addr.add_add] at this; simpa using this
    obtain ⟨f, hf⟩ := @choose_lt Sd ⟨Sd.z⟩ _ _ each
    refine ⟨(List.range len).map f, some ad, cap, by simp, by simpa using hl', hm, ?_⟩
    by_cases hl0 : len = 0
    · left; subst hl0; rfl
    · right
      obtain ⟨b, off, spot⟩ := ad
      have hspot : spot = none := by
        have := World.cell?_spot (hf 0 (by omega)).1
        simpa [Addr.add] using this
      subst hspot
      refine ⟨b, off, rfl, fun i hi' => ?_⟩
      simp only [List.length_map, List.length_range] at hi'
      rw [getD_range_map Sd.z f len i hi']
      obtain ⟨g0, g1, g2, u, g3, g4⟩ := hf i hi'
      rw [add_plain] at g0 g1 g2 g3
      exact ⟨g0, by rw [Nat.add_assoc]; exact g1, by rw [Nat.add_assoc]; exact g2, u, by rw [Nat.add_assoc]; exact g3, g4⟩

theorem open_booksArg {r : Reach} {b0 : Nat} {t ti tl tm tp tpe ts tse : TypeId} {f0 f1 f2 f3 m0 m1 p0 p1 s0 s1 s2 s3 : Field} {v : Value} {d : DataW H} {p : List MemPlace}
    (hs : P.underlying t = some (.struct #[f0, f1, f2, f3])) (hC : P.cellsOf t = 5)
    (o0 : f0.offset = 0) (o1 : f1.offset = 1) (o2 : f2.offset = 3) (o3 : f3.offset = 4) (t0 : f0.type = ti) (t1 : f1.type = tm) (t2 : f2.type = tp) (t3 : f3.type = ts)
    (hi : P.underlying ti = some (.int .i64)) (ci : P.cellsOf ti = 1) (hl : P.underlying tl = some (.slice ti)) (cl : P.cellsOf tl = 1)
    (hm : P.underlying tm = some (.struct #[m0, m1])) (cm : P.cellsOf tm = 2) (mo0 : m0.offset = 0) (mo1 : m1.offset = 1) (mt0 : m0.type = ti) (mt1 : m1.type = tl)
    (hp : P.underlying tp = some (.slice tpe)) (cp : P.cellsOf tp = 1) (hpe : P.underlying tpe = some (.struct #[p0, p1])) (cpe : P.cellsOf tpe = 2) (po0 : p0.offset = 0) (po1 : p1.offset = 1) (pt0 : p0.type = ti) (pt1 : p1.type = ti)
    (hss : P.underlying ts = some (.slice tse)) (cs : P.cellsOf ts = 1) (hse : P.underlying tse = some (.struct #[s0, s1, s2, s3])) (cse : P.cellsOf tse = 4)
    (so0 : s0.offset = 0) (so1 : s1.offset = 1) (so2 : s2.offset = 2) (so3 : s3.offset = 3) (st0 : s0.type = ti) (st1 : s1.type = ti) (st2 : s2.type = ti) (st3 : s3.type = tl)
    (hv : Value.okWide P w r b0 t v) (h : DataW.Trod enc P w base spare held t v d p) :
    ∃ (x y : Int) (u sv dv : Value) (L : List Int) (ps : List Pr) (ss : List Sd), v = .agg #[.int .i64 x, .int .i64 y, u, sv, dv] ∧ BkAt w u sv dv L ps ss := by
  obtain ⟨vs, rfl, hsz⟩ := okWide_struct hs hv
  obtain ⟨c0, c1, c2, c3, c4, rfl⟩ := array5 (hsz.trans hC)
  obtain ⟨fuel, hf⟩ := h
  obtain ⟨y0, y1, y2, y3, n, hx, _, g0, g1, g2, g3⟩ := trod_struct4 hs hf
  rw [o0, t0, ci] at g0; rw [o1, t1, cm] at g1; rw [o2, t2, cp] at g2; rw [o3, t3, cs] at g3
  simp [Value.cells] at g0 g1 g2 g3
  obtain ⟨x, e0, _, _⟩ := DataW.trod_int hi g0
  simp at e0
  subst e0
  obtain ⟨k0, k1, n', _, _, j0, j1⟩ := trod_struct2 hm g1
  rw [mo0, mt0, ci] at j0; rw [mo1, mt1, cl] at j1
  simp at j0 j1
  obtain ⟨y, e1, _, _⟩ := DataW.trod_int hi j0
  simp at e1
  subst e1
  obtain ⟨L, hL⟩ := open_ins hl hi ci j1
  obtain ⟨pa, pl, pc, hpv⟩ := slice_form hp g2
  simp at hpv
  subst hpv
  obtain ⟨ps, hps⟩ := open_prs hp hpe cpe po0 po1 pt0 pt1 hi ci g2
  obtain ⟨sa, sl, sc, hsv⟩ := slice_form hss g3
  simp at hsv
  subst hsv
  obtain ⟨ss, hsd⟩ := open_sds hss hse cse so0 so1 so2 so3 st0 st1 st2 st3 hi ci hl cl g3
  exact ⟨x, y, c2, _, _, L, ps, ss, rfl, hL, hps, hsd⟩

end
end Go.Proofs.Ytfankbnlgmfdjaa
